/-
  leastFor with any closure; PrimaryFlow, LeastPrimary and LeastTransfer of the program.
-/
import Derived.Test.YtdaedgdglammhabEx8
namespace Go.Proofs.Ytdaedgdglammhab
open Go.ChangeShapes Go.WideShapes Go.ChangeAt Go.RowKit Go.Shelf

set_option linter.unusedVariables false
set_option linter.unusedSimpArgs false
set_option maxRecDepth 100000
set_option maxHeartbeats 4000000
def lfV (hi r : Int) : Int := if r ≤ hi then r else 0
def lfC (hi r : Int) : Int := if r ≤ hi then 0 else 6
theorem leastFor_any (g : Nat) (fs cp : Array Value) (goal lo hi : Int) (f : Int → Int) (w : World) (eg : ∀ args w, (callFunc g args).run Try.prog w = .ok (.enter g args) w)
    (l0 : -100000000000 ≤ lo) (lh : lo ≤ hi + 1) (l1 : hi ≤ 100000000000)
    (hF : ∀ (wr : World) (x : Int), lo ≤ x → x ≤ hi → Below w.heap.size w wr → Calls Try.prog g (fs.push (.int .i64 x) ++ cp) wr fun e w' => e = .returned (.int .i64 (f x)) ∧ Below wr.heap.size wr w')
    (hm : ∀ x y, lo ≤ x → x ≤ y → y ≤ hi → f x ≤ f y) :
    Calls Try.prog 54 #[.int .i64 goal, .int .i64 lo, .int .i64 hi, .func (.func g) fs cp] w fun e w' => e = .returned (.tuple #[.int .i64 (lfV hi (leastI lo hi goal f)), .int .i64 (lfC hi (leastI lo hi goal f))]) ∧ Below w.heap.size w w' := by
  have HK := Lib.hid (firstFrom_any g fs cp lo hi goal f w eg l0 lh l1 hF hm)
  clear hF hm
  generalize leastI lo hi goal f = r at *
  have hb : Below w.heap.size w w := Below.refl _ _
  by_cases h : r ≤ hi
  · have hd : decide (hi < r) = false := decide_eq_false (by omega)
    have hv : lfV hi r = r := if_pos h
    have hc : lfC hi r = 0 := if_pos h
    rw [hv, hc]
    clear hv hc
    go_enter Try.func54, Try.ntmps54
    go_wp2_with ((go_at_call 78; refine HK.out.mono ?_; rintro e w' ⟨rfl, hb'⟩; have hb := bnext hb hb'))
    go_ret2
    exact ⟨rfl, hb⟩
  · have hd : decide (hi < r) = true := decide_eq_true (by omega)
    have hv : lfV hi r = 0 := if_neg h
    have hc : lfC hi r = 6 := if_neg h
    rw [hv, hc]
    clear hv hc
    go_enter Try.func54, Try.ntmps54
    go_wp2_with ((go_at_call 78; refine HK.out.mono ?_; rintro e w' ⟨rfl, hb'⟩; have hb := bnext hb hb'))
    go_ret2
    exact ⟨rfl, hb⟩

/-- the least flow, the least exchanger, the least temperature that is enough -/
def needQ (x : Sb) (p g : Int) : Int := leastI 0 100000 g (fun q => powI x.tr x.su x.re p q)
def needT (x : Sb) (p g : Int) : Int := leastI 1 100000 g (fun t => powI t x.su x.re p 100000)
def needP (x : Sb) (g q : Int) : Int := leastI 0 18000 g (fun p => powI x.tr x.su x.re p q)
def pfV (x : Sb) (p g : Int) : Int := if okSb x && (inB p 0 18000 && inB g 0 100000000) then lfV 100000 (needQ x p g) else 0
def pfC (x : Sb) (p g : Int) : Int := if okSb x && (inB p 0 18000 && inB g 0 100000000) then lfC 100000 (needQ x p g) else argC (okSb x) (inB p 0 18000 && inB g 0 100000000)
def ltV (x : Sb) (p g : Int) : Int := if okSb x && (inB p 0 18000 && inB g 0 100000000) then lfV 100000 (needT x p g) else 0
def ltC (x : Sb) (p g : Int) : Int := if okSb x && (inB p 0 18000 && inB g 0 100000000) then lfC 100000 (needT x p g) else argC (okSb x) (inB p 0 18000 && inB g 0 100000000)
def lpV (x : Sb) (g q : Int) : Int := if okSb x && (inB g 0 100000000 && inB q 0 100000) then lfV 18000 (needP x g q) else 0
def lpC (x : Sb) (g q : Int) : Int := if okSb x && (inB g 0 100000000 && inB q 0 100000) then lfC 18000 (needP x g q) else argC (okSb x) (inB g 0 100000000 && inB q 0 100000)

theorem implPrimaryFlow_any (x : Sb) (p : Int) (g : Int) (w : World) (hs : x.id.size ≤ maxLen) : Calls Try.prog 20 #[.agg #[.string x.id, .int .i64 x.nd, .int .i64 x.tr, .int .i64 x.su, .int .i64 x.re], .int .i64 p, .int .i64 g] w fun e w' => e = .returned (.tuple #[.int .i64 (pfV x p g), .int .i64 (pfC x p g)]) ∧ Below w.heap.size w w' := by
  by_cases h1 : inB p 0 18000 = true
  · skip
    by_cases h2 : inB g 0 100000000 = true
    · skip
      have hr : (inB p 0 18000 && inB g 0 100000000) = true := by simp [*]
      by_cases hx : okSb x = true
      · skip
        have HS := Lib.hid (fun W => by have h := substationCode_any x true W hs; rw [hx] at h; exact h)
        have HC0 := Lib.hid (fun W b hc => by have h := isWater_free p b W hc; rw [h1] at h; exact h)
        have HC1 := Lib.hid (fun W b hc => by have h := isPower_free g b W hc; rw [h2] at h; exact h)
        have hv : pfV x p g = lfV 100000 (needQ x p g) := by unfold pfV; rw [hx, hr]; exact if_pos rfl
        have hc : pfC x p g = lfC 100000 (needQ x p g) := by unfold pfC; rw [hx, hr]; exact if_pos rfl
        rw [hv, hc]
        clear hv hc hr
        have hq1 := inB_iff.1 h1
        have hq2 := inB_iff.1 h2
        have hE := okSb_ex hx p hq1.1 hq1.2
        have HL := Lib.hid (fun W => leastFor_any 55 #[.agg #[.string x.id, .int .i64 x.nd, .int .i64 x.tr, .int .i64 x.su, .int .i64 x.re, .int .i64 p]] #[] g 0 100000 (fun q => powI x.tr x.su x.re p q) W (enters_of Try.func55 (by kernel_rfl) rfl) (by omega) (by omega) (by omega)
          (fun wr q a b _ => by
            have := power_any x p q wr hE a b
            simpa using this)
          (fun a b k l _ => pow_flow x.tr x.su x.re p a b hE.1.1 k l))
        change Hid (∀ W, Calls _ _ _ _ fun e w' => e = .returned (.tuple #[.int .i64 (lfV 100000 (needQ x p g)), .int .i64 (lfC 100000 (needQ x p g))]) ∧ _) at HL
        generalize needQ x p g = r at *
        have hp := SbO.new w x 34
        have ⟨p0, p1, p2, p3, p4⟩ := hp
        have hb : Below w.heap.size w (w.alloc (.cells #[.string x.id, .int .i64 x.nd, .int .i64 x.tr, .int .i64 x.su, .int .i64 x.re] 34)) := bal (Below.refl _ _) _
        go_enter Try.func20, Try.ntmps20
        go_wp2_with fail
        first | (go_region_held3 (fun w' => w'.cell? ⟨w.heap.size, 0, none⟩ = some (.string x.id) ∧ w'.cell? ⟨w.heap.size, 1, none⟩ = some (.int .i64 x.nd) ∧ w'.cell? ⟨w.heap.size, 2, none⟩ = some (.int .i64 x.tr) ∧ w'.cell? ⟨w.heap.size, 3, none⟩ = some (.int .i64 x.su) ∧ w'.cell? ⟨w.heap.size, 4, none⟩ = some (.int .i64 x.re) ∧ Below w.heap.size w w') (first | assumption | exact ⟨p0, p1, p2, p3, p4, below_drewN hb 1⟩ | (go_split_ands; have hq := SbO.next (x := x) ⟨by assumption, by assumption, by assumption, by assumption, by assumption⟩ hb'; exact ⟨hq.1, hq.2.1, hq.2.2.1, hq.2.2.2.1, hq.2.2.2.2, bnext (by assumption) hb'⟩) | exact ⟨(SbO.allocDrew hp _).1, (SbO.allocDrew hp _).2.1, (SbO.allocDrew hp _).2.2.1, (SbO.allocDrew hp _).2.2.2.1, (SbO.allocDrew hp _).2.2.2.2, bal_drew hb _⟩ | (have hq := SbO.next (SbO.allocDrew hp _) hb'; exact ⟨hq.1, hq.2.1, hq.2.2.1, hq.2.2.2.1, hq.2.2.2.2, bnext (bal_drew hb _) hb'⟩) | (go_split_ands; exact ⟨(SbO.alloc (x := x) ⟨by assumption, by assumption, by assumption, by assumption, by assumption⟩ _).1, (SbO.alloc (x := x) ⟨by assumption, by assumption, by assumption, by assumption, by assumption⟩ _).2.1, (SbO.alloc (x := x) ⟨by assumption, by assumption, by assumption, by assumption, by assumption⟩ _).2.2.1, (SbO.alloc (x := x) ⟨by assumption, by assumption, by assumption, by assumption, by assumption⟩ _).2.2.2.1, (SbO.alloc (x := x) ⟨by assumption, by assumption, by assumption, by assumption, by assumption⟩ _).2.2.2.2, bal (by assumption) _⟩) | (go_split_ands; exact ⟨(SbO.allocDrew (x := x) ⟨by assumption, by assumption, by assumption, by assumption, by assumption⟩ _).1, (SbO.allocDrew (x := x) ⟨by assumption, by assumption, by assumption, by assumption, by assumption⟩ _).2.1, (SbO.allocDrew (x := x) ⟨by assumption, by assumption, by assumption, by assumption, by assumption⟩ _).2.2.1, (SbO.allocDrew (x := x) ⟨by assumption, by assumption, by assumption, by assumption, by assumption⟩ _).2.2.2.1, (SbO.allocDrew (x := x) ⟨by assumption, by assumption, by assumption, by assumption, by assumption⟩ _).2.2.2.2, bal_drew (by assumption) _⟩)) (first | (go_at_call 52; refine (HC0.out _ _ ?hn).mono ?_; (case hn => first | exact (World.cell?_alloc_at _ _ _ _ (by simp)).trans rfl | simp); rintro e w' ⟨rfl, rfl⟩) | (go_at_call 53; refine (HC1.out _ _ ?hn).mono ?_; (case hn => first | exact (World.cell?_alloc_at _ _ _ _ (by simp)).trans rfl | simp); rintro e w' ⟨rfl, rfl⟩) | (go_at_call 51; refine (HS.out _).mono ?_; rintro e w' ⟨rfl, hb'⟩))) | fail
        rename_i hHeld
        obtain ⟨p0, p1, p2, p3, p4, hb⟩ := hHeld
        go_wp2_with (go_at_call 54; refine (HL.out _).mono ?_; rintro e w' ⟨rfl, hb'⟩; first | have hb := bnext hb hb' | have hb := bnext (bal hb _) hb' | have hb := bnext (bal (bal hb _) _) hb' | have hb := bnext (bal (bal (bal hb _) _) _) hb' | have hb := bnext (bal (bal (bal (bal hb _) _) _) _) hb' | have hb := bnext (bal (bal (bal (bal (bal hb _) _) _) _) _) hb')
        go_ret2
        first | exact ⟨rfl, hb⟩ | exact ⟨rfl, (bal hb _)⟩ | exact ⟨rfl, (bal (bal hb _) _)⟩ | exact ⟨rfl, (bal (bal (bal hb _) _) _)⟩ | exact ⟨rfl, (bal (bal (bal (bal hb _) _) _) _)⟩ | exact ⟨rfl, (bal (bal (bal (bal (bal hb _) _) _) _) _)⟩
      · skip
        have hx' : okSb x = false := by simpa using hx
        have hv : pfV x p g = 0 := by unfold pfV; rw [hx', Bool.false_and]; exact if_neg (by decide)
        have hc : pfC x p g = 1 := by unfold pfC; rw [hx', Bool.false_and]; exact if_neg (by decide)
        rw [hv, hc]
        clear hv hc
        have HS := Lib.hid (fun W => by have h := substationCode_any x true W hs; rw [hx'] at h; exact h)
        have HC0 := Lib.hid (fun W b hc => by have h := isWater_free p b W hc; rw [h1] at h; exact h)
        have HC1 := Lib.hid (fun W b hc => by have h := isPower_free g b W hc; rw [h2] at h; exact h)
        clear hx hx' hr
        have hp := SbO.new w x 34
        have ⟨p0, p1, p2, p3, p4⟩ := hp
        have hb : Below w.heap.size w (w.alloc (.cells #[.string x.id, .int .i64 x.nd, .int .i64 x.tr, .int .i64 x.su, .int .i64 x.re] 34)) := bal (Below.refl _ _) _
        go_enter Try.func20, Try.ntmps20
        go_wp2_with fail
        first | (go_region_held3 (fun w' => w'.cell? ⟨w.heap.size, 0, none⟩ = some (.string x.id) ∧ w'.cell? ⟨w.heap.size, 1, none⟩ = some (.int .i64 x.nd) ∧ w'.cell? ⟨w.heap.size, 2, none⟩ = some (.int .i64 x.tr) ∧ w'.cell? ⟨w.heap.size, 3, none⟩ = some (.int .i64 x.su) ∧ w'.cell? ⟨w.heap.size, 4, none⟩ = some (.int .i64 x.re) ∧ Below w.heap.size w w') (first | assumption | exact ⟨p0, p1, p2, p3, p4, below_drewN hb 1⟩ | (go_split_ands; have hq := SbO.next (x := x) ⟨by assumption, by assumption, by assumption, by assumption, by assumption⟩ hb'; exact ⟨hq.1, hq.2.1, hq.2.2.1, hq.2.2.2.1, hq.2.2.2.2, bnext (by assumption) hb'⟩) | exact ⟨(SbO.allocDrew hp _).1, (SbO.allocDrew hp _).2.1, (SbO.allocDrew hp _).2.2.1, (SbO.allocDrew hp _).2.2.2.1, (SbO.allocDrew hp _).2.2.2.2, bal_drew hb _⟩ | (have hq := SbO.next (SbO.allocDrew hp _) hb'; exact ⟨hq.1, hq.2.1, hq.2.2.1, hq.2.2.2.1, hq.2.2.2.2, bnext (bal_drew hb _) hb'⟩) | (go_split_ands; exact ⟨(SbO.alloc (x := x) ⟨by assumption, by assumption, by assumption, by assumption, by assumption⟩ _).1, (SbO.alloc (x := x) ⟨by assumption, by assumption, by assumption, by assumption, by assumption⟩ _).2.1, (SbO.alloc (x := x) ⟨by assumption, by assumption, by assumption, by assumption, by assumption⟩ _).2.2.1, (SbO.alloc (x := x) ⟨by assumption, by assumption, by assumption, by assumption, by assumption⟩ _).2.2.2.1, (SbO.alloc (x := x) ⟨by assumption, by assumption, by assumption, by assumption, by assumption⟩ _).2.2.2.2, bal (by assumption) _⟩) | (go_split_ands; exact ⟨(SbO.allocDrew (x := x) ⟨by assumption, by assumption, by assumption, by assumption, by assumption⟩ _).1, (SbO.allocDrew (x := x) ⟨by assumption, by assumption, by assumption, by assumption, by assumption⟩ _).2.1, (SbO.allocDrew (x := x) ⟨by assumption, by assumption, by assumption, by assumption, by assumption⟩ _).2.2.1, (SbO.allocDrew (x := x) ⟨by assumption, by assumption, by assumption, by assumption, by assumption⟩ _).2.2.2.1, (SbO.allocDrew (x := x) ⟨by assumption, by assumption, by assumption, by assumption, by assumption⟩ _).2.2.2.2, bal_drew (by assumption) _⟩)) (first | (go_at_call 52; refine (HC0.out _ _ ?hn).mono ?_; (case hn => first | exact (World.cell?_alloc_at _ _ _ _ (by simp)).trans rfl | simp); rintro e w' ⟨rfl, rfl⟩) | (go_at_call 53; refine (HC1.out _ _ ?hn).mono ?_; (case hn => first | exact (World.cell?_alloc_at _ _ _ _ (by simp)).trans rfl | simp); rintro e w' ⟨rfl, rfl⟩) | (go_at_call 51; refine (HS.out _).mono ?_; rintro e w' ⟨rfl, hb'⟩))) | fail
        rename_i hHeld
        obtain ⟨p0, p1, p2, p3, p4, hb⟩ := hHeld
        go_wp2
        go_ret2
        exact ⟨rfl, hb⟩
    · have h2' : inB g 0 100000000 = false := by simpa using h2
      have hr : (inB p 0 18000 && inB g 0 100000000) = false := by simp [*]
      have hv : pfV x p g = 0 := by unfold pfV; rw [hr, Bool.and_false]; exact if_neg (by decide)
      have hc : pfC x p g = argC (okSb x) false := by unfold pfC; rw [hr, Bool.and_false]; exact if_neg (by decide)
      rw [hv, hc]
      clear hv hc
      have HS := Lib.hid (fun W => substationCode_any x false W hs)
      have hk : argC (okSb x) false ≠ 0 := by unfold argC; split <;> decide
      generalize argC (okSb x) false = k at *
      have HC0 := Lib.hid (fun W b hc => by have h := isWater_free p b W hc; rw [h1] at h; exact h)
      have HC1 := Lib.hid (fun W b hc => by have h := isPower_free g b W hc; rw [h2'] at h; exact h)
      have hp := SbO.new w x 34
      have ⟨p0, p1, p2, p3, p4⟩ := hp
      have hb : Below w.heap.size w (w.alloc (.cells #[.string x.id, .int .i64 x.nd, .int .i64 x.tr, .int .i64 x.su, .int .i64 x.re] 34)) := bal (Below.refl _ _) _
      go_enter Try.func20, Try.ntmps20
      go_wp2_with fail
      first | (go_region_held3 (fun w' => w'.cell? ⟨w.heap.size, 0, none⟩ = some (.string x.id) ∧ w'.cell? ⟨w.heap.size, 1, none⟩ = some (.int .i64 x.nd) ∧ w'.cell? ⟨w.heap.size, 2, none⟩ = some (.int .i64 x.tr) ∧ w'.cell? ⟨w.heap.size, 3, none⟩ = some (.int .i64 x.su) ∧ w'.cell? ⟨w.heap.size, 4, none⟩ = some (.int .i64 x.re) ∧ Below w.heap.size w w') (first | assumption | exact ⟨p0, p1, p2, p3, p4, below_drewN hb 1⟩ | (go_split_ands; have hq := SbO.next (x := x) ⟨by assumption, by assumption, by assumption, by assumption, by assumption⟩ hb'; exact ⟨hq.1, hq.2.1, hq.2.2.1, hq.2.2.2.1, hq.2.2.2.2, bnext (by assumption) hb'⟩) | exact ⟨(SbO.allocDrew hp _).1, (SbO.allocDrew hp _).2.1, (SbO.allocDrew hp _).2.2.1, (SbO.allocDrew hp _).2.2.2.1, (SbO.allocDrew hp _).2.2.2.2, bal_drew hb _⟩ | (have hq := SbO.next (SbO.allocDrew hp _) hb'; exact ⟨hq.1, hq.2.1, hq.2.2.1, hq.2.2.2.1, hq.2.2.2.2, bnext (bal_drew hb _) hb'⟩) | (go_split_ands; exact ⟨(SbO.alloc (x := x) ⟨by assumption, by assumption, by assumption, by assumption, by assumption⟩ _).1, (SbO.alloc (x := x) ⟨by assumption, by assumption, by assumption, by assumption, by assumption⟩ _).2.1, (SbO.alloc (x := x) ⟨by assumption, by assumption, by assumption, by assumption, by assumption⟩ _).2.2.1, (SbO.alloc (x := x) ⟨by assumption, by assumption, by assumption, by assumption, by assumption⟩ _).2.2.2.1, (SbO.alloc (x := x) ⟨by assumption, by assumption, by assumption, by assumption, by assumption⟩ _).2.2.2.2, bal (by assumption) _⟩) | (go_split_ands; exact ⟨(SbO.allocDrew (x := x) ⟨by assumption, by assumption, by assumption, by assumption, by assumption⟩ _).1, (SbO.allocDrew (x := x) ⟨by assumption, by assumption, by assumption, by assumption, by assumption⟩ _).2.1, (SbO.allocDrew (x := x) ⟨by assumption, by assumption, by assumption, by assumption, by assumption⟩ _).2.2.1, (SbO.allocDrew (x := x) ⟨by assumption, by assumption, by assumption, by assumption, by assumption⟩ _).2.2.2.1, (SbO.allocDrew (x := x) ⟨by assumption, by assumption, by assumption, by assumption, by assumption⟩ _).2.2.2.2, bal_drew (by assumption) _⟩)) (first | (go_at_call 52; refine (HC0.out _ _ ?hn).mono ?_; (case hn => first | exact (World.cell?_alloc_at _ _ _ _ (by simp)).trans rfl | simp); rintro e w' ⟨rfl, rfl⟩) | (go_at_call 53; refine (HC1.out _ _ ?hn).mono ?_; (case hn => first | exact (World.cell?_alloc_at _ _ _ _ (by simp)).trans rfl | simp); rintro e w' ⟨rfl, rfl⟩) | (go_at_call 51; refine (HS.out _).mono ?_; rintro e w' ⟨rfl, hb'⟩))) | fail
      rename_i hHeld
      obtain ⟨p0, p1, p2, p3, p4, hb⟩ := hHeld
      go_wp2
      go_ret2
      exact ⟨rfl, hb⟩
  · have h1' : inB p 0 18000 = false := by simpa using h1
    have hr : (inB p 0 18000 && inB g 0 100000000) = false := by simp [*]
    have hv : pfV x p g = 0 := by unfold pfV; rw [hr, Bool.and_false]; exact if_neg (by decide)
    have hc : pfC x p g = argC (okSb x) false := by unfold pfC; rw [hr, Bool.and_false]; exact if_neg (by decide)
    rw [hv, hc]
    clear hv hc
    have HS := Lib.hid (fun W => substationCode_any x false W hs)
    have hk : argC (okSb x) false ≠ 0 := by unfold argC; split <;> decide
    generalize argC (okSb x) false = k at *
    have HC0 := Lib.hid (fun W b hc => by have h := isWater_free p b W hc; rw [h1'] at h; exact h)
    have hp := SbO.new w x 34
    have ⟨p0, p1, p2, p3, p4⟩ := hp
    have hb : Below w.heap.size w (w.alloc (.cells #[.string x.id, .int .i64 x.nd, .int .i64 x.tr, .int .i64 x.su, .int .i64 x.re] 34)) := bal (Below.refl _ _) _
    go_enter Try.func20, Try.ntmps20
    go_wp2_with fail
    first | (go_region_held (fun w' => w'.cell? ⟨w.heap.size, 0, none⟩ = some (.string x.id) ∧ w'.cell? ⟨w.heap.size, 1, none⟩ = some (.int .i64 x.nd) ∧ w'.cell? ⟨w.heap.size, 2, none⟩ = some (.int .i64 x.tr) ∧ w'.cell? ⟨w.heap.size, 3, none⟩ = some (.int .i64 x.su) ∧ w'.cell? ⟨w.heap.size, 4, none⟩ = some (.int .i64 x.re) ∧ Below w.heap.size w w') (first | assumption | exact ⟨p0, p1, p2, p3, p4, below_drewN hb 1⟩ | (go_split_ands; have hq := SbO.next (x := x) ⟨by assumption, by assumption, by assumption, by assumption, by assumption⟩ hb'; exact ⟨hq.1, hq.2.1, hq.2.2.1, hq.2.2.2.1, hq.2.2.2.2, bnext (by assumption) hb'⟩) | exact ⟨(SbO.allocDrew hp _).1, (SbO.allocDrew hp _).2.1, (SbO.allocDrew hp _).2.2.1, (SbO.allocDrew hp _).2.2.2.1, (SbO.allocDrew hp _).2.2.2.2, bal_drew hb _⟩ | (have hq := SbO.next (SbO.allocDrew hp _) hb'; exact ⟨hq.1, hq.2.1, hq.2.2.1, hq.2.2.2.1, hq.2.2.2.2, bnext (bal_drew hb _) hb'⟩) | (go_split_ands; exact ⟨(SbO.alloc (x := x) ⟨by assumption, by assumption, by assumption, by assumption, by assumption⟩ _).1, (SbO.alloc (x := x) ⟨by assumption, by assumption, by assumption, by assumption, by assumption⟩ _).2.1, (SbO.alloc (x := x) ⟨by assumption, by assumption, by assumption, by assumption, by assumption⟩ _).2.2.1, (SbO.alloc (x := x) ⟨by assumption, by assumption, by assumption, by assumption, by assumption⟩ _).2.2.2.1, (SbO.alloc (x := x) ⟨by assumption, by assumption, by assumption, by assumption, by assumption⟩ _).2.2.2.2, bal (by assumption) _⟩) | (go_split_ands; exact ⟨(SbO.allocDrew (x := x) ⟨by assumption, by assumption, by assumption, by assumption, by assumption⟩ _).1, (SbO.allocDrew (x := x) ⟨by assumption, by assumption, by assumption, by assumption, by assumption⟩ _).2.1, (SbO.allocDrew (x := x) ⟨by assumption, by assumption, by assumption, by assumption, by assumption⟩ _).2.2.1, (SbO.allocDrew (x := x) ⟨by assumption, by assumption, by assumption, by assumption, by assumption⟩ _).2.2.2.1, (SbO.allocDrew (x := x) ⟨by assumption, by assumption, by assumption, by assumption, by assumption⟩ _).2.2.2.2, bal_drew (by assumption) _⟩)) (first | (go_at_call 52; refine (HC0.out _ _ ?hn).mono ?_; (case hn => first | exact (World.cell?_alloc_at _ _ _ _ (by simp)).trans rfl | simp); rintro e w' ⟨rfl, rfl⟩) | (go_at_call 51; refine (HS.out _).mono ?_; rintro e w' ⟨rfl, hb'⟩))) | fail
    rename_i hHeld
    obtain ⟨p0, p1, p2, p3, p4, hb⟩ := hHeld
    go_wp2
    go_ret2
    exact ⟨rfl, hb⟩

end Go.Proofs.Ytdaedgdglammhab
