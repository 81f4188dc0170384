/-
  LeastPrimary and LeastTransfer of the program.
-/
import Derived.Test.YtdaedgdglammhabEy0
namespace Go.Proofs.Ytdaedgdglammhab
open Go.ChangeShapes Go.WideShapes Go.ChangeAt Go.RowKit Go.Shelf

set_option linter.unusedVariables false
set_option linter.unusedSimpArgs false
set_option maxRecDepth 100000
set_option maxHeartbeats 4000000
/-- a substation in block B and a number in block C -/
def Sb2O (w : World) (B C : Nat) (x : Sb) (v : Int) : Prop := SbO w B 0 x ∧ w.cell? ⟨C, 0, none⟩ = some (.int .i64 v)
theorem Sb2O.next {w w' : World} {B C : Nat} {x : Sb} {v : Int} (h : Sb2O w B C x v) (hb : Below w.heap.size w w') : Sb2O w' B C x v := ⟨h.1.next hb, (hb.cell (World.block_lt_of_cell? _ _ h.2)).trans h.2⟩
theorem Sb2O.alloc {w : World} {B C : Nat} {x : Sb} {v : Int} (h : Sb2O w B C x v) (O : Obj) : Sb2O (w.alloc O) B C x v := h.next (bal (Below.refl _ _) O)
theorem Sb2O.allocDrew {w : World} {B C : Nat} {x : Sb} {v : Int} (h : Sb2O w B C x v) (O : Obj) : Sb2O (w.alloc O).drew B C x v := h.alloc O
theorem Sb2O.new (w : World) (x : Sb) (v : Int) (T U : TypeId) : Sb2O ((w.alloc (.cells #[.string x.id, .int .i64 x.nd, .int .i64 x.tr, .int .i64 x.su, .int .i64 x.re] T)).alloc (.cells #[.int .i64 v] U)) w.heap.size (w.heap.size + 1) x v :=
  ⟨(SbO.new w x T).alloc _, by rw [World.cell?_alloc2_new]; rfl⟩

theorem lpAsk_any (B C : Nat) (x : Sb) (p q : Int) (w : World) (hp : Sb2O w B C x q) (h : exB x p) (q0 : 0 ≤ q) (q1 : q ≤ 100000) :
    Calls Try.prog 66 #[.int .i64 p, .pointer (some ⟨B, 0, none⟩), .pointer (some ⟨C, 0, none⟩)] w fun e w' => e = .returned (.int .i64 (powI x.tr x.su x.re p q)) ∧ Below w.heap.size w w' := by
  have HP := Lib.hid (fun W => power_any x p q W h q0 q1)
  generalize powI x.tr x.su x.re p q = k at *
  have ⟨⟨p0, p1, p2, p3, p4⟩, hf⟩ := hp
  have hb : Below w.heap.size w w := Below.refl _ _
  go_enter Try.func66, Try.ntmps66
  go_wp2_with fail
  refine (HP.out _).mono ?_
  rintro e w' ⟨rfl, hb'⟩
  go_wp2
  go_ret
  exact ⟨rfl, hb'⟩

theorem implLeastPrimary_any (x : Sb) (g : Int) (q : Int) (w : World) (hs : x.id.size ≤ maxLen) : Calls Try.prog 30 #[.agg #[.string x.id, .int .i64 x.nd, .int .i64 x.tr, .int .i64 x.su, .int .i64 x.re], .int .i64 g, .int .i64 q] w fun e w' => e = .returned (.tuple #[.int .i64 (lpV x g q), .int .i64 (lpC x g q)]) ∧ Below w.heap.size w w' := by
  by_cases h1 : inB g 0 100000000 = true
  · skip
    by_cases h2 : inB q 0 100000 = true
    · skip
      have hr : (inB g 0 100000000 && inB q 0 100000) = true := by simp [*]
      by_cases hx : okSb x = true
      · skip
        have HS := Lib.hid (fun W => by have h := substationCode_any x true W hs; rw [hx] at h; exact h)
        have HC0 := Lib.hid (fun W b hc => by have h := isPower_free g b W hc; rw [h1] at h; exact h)
        have HC1 := Lib.hid (fun W => by have h := isPumped_any q W; rw [h2] at h; exact h)
        have hv : lpV x g q = lfV 18000 (needP x g q) := by unfold lpV; rw [hx, hr]; exact if_pos rfl
        have hc : lpC x g q = lfC 18000 (needP x g q) := by unfold lpC; rw [hx, hr]; exact if_pos rfl
        rw [hv, hc]
        clear hv hc hr
        have hq1 := inB_iff.1 h1
        have hq2 := inB_iff.1 h2
        have HL := Lib.hid (fun W (hW : Sb2O W w.heap.size (w.heap.size + 1) x q) => leastFor_any 66 #[] #[.pointer (some ⟨w.heap.size, 0, none⟩), .pointer (some ⟨w.heap.size + 1, 0, none⟩)] g 0 18000 (fun p => powI x.tr x.su x.re p q) W (enters_of Try.func66 (by kernel_rfl) rfl) (by omega) (by omega) (by omega)
          (fun wr p a b hbr => by
            have := lpAsk_any w.heap.size (w.heap.size + 1) x p q wr (hW.next hbr) (okSb_ex hx p a b) hq2.1 hq2.2
            simpa using this)
          (fun a b k l m => pow_primary x.tr x.su x.re a b q (okSb_ex hx 0 (by omega) (by omega)).1.1 hq2.1 l))
        change Hid (∀ W, _ → Calls _ _ _ _ fun e w' => e = .returned (.tuple #[.int .i64 (lfV 18000 (needP x g q)), .int .i64 (lfC 18000 (needP x g q))]) ∧ _) at HL
        generalize needP x g q = r at *
        have hp := Sb2O.new w x q 34 2
        have ⟨⟨p0, p1, p2, p3, p4⟩, hf⟩ := hp
        have hb : Below w.heap.size w ((w.alloc (.cells #[.string x.id, .int .i64 x.nd, .int .i64 x.tr, .int .i64 x.su, .int .i64 x.re] 34)).alloc (.cells #[.int .i64 q] 2)) := bal (bal (Below.refl _ _) _) _
        go_enter Try.func30, Try.ntmps30
        go_wp2_with fail
        first | (go_region_held3 (fun w' => w'.cell? ⟨w.heap.size, 0, none⟩ = some (.string x.id) ∧ w'.cell? ⟨w.heap.size, 1, none⟩ = some (.int .i64 x.nd) ∧ w'.cell? ⟨w.heap.size, 2, none⟩ = some (.int .i64 x.tr) ∧ w'.cell? ⟨w.heap.size, 3, none⟩ = some (.int .i64 x.su) ∧ w'.cell? ⟨w.heap.size, 4, none⟩ = some (.int .i64 x.re) ∧ w'.cell? ⟨w.heap.size + 1, 0, none⟩ = some (.int .i64 q) ∧ Below w.heap.size w w') (first | assumption | exact ⟨p0, p1, p2, p3, p4, hf, below_drewN hb 1⟩ | (go_split_ands; have hq := Sb2O.next (x := x) (v := q) (B := w.heap.size) (C := w.heap.size + 1) ⟨⟨by assumption, by assumption, by assumption, by assumption, by assumption⟩, by assumption⟩ hb'; exact ⟨hq.1.1, hq.1.2.1, hq.1.2.2.1, hq.1.2.2.2.1, hq.1.2.2.2.2, hq.2, bnext (by assumption) hb'⟩) | exact ⟨(Sb2O.allocDrew hp _).1.1, (Sb2O.allocDrew hp _).1.2.1, (Sb2O.allocDrew hp _).1.2.2.1, (Sb2O.allocDrew hp _).1.2.2.2.1, (Sb2O.allocDrew hp _).1.2.2.2.2, (Sb2O.allocDrew hp _).2, bal_drew hb _⟩ | (have hq := Sb2O.next (Sb2O.allocDrew hp _) hb'; exact ⟨hq.1.1, hq.1.2.1, hq.1.2.2.1, hq.1.2.2.2.1, hq.1.2.2.2.2, hq.2, bnext (bal_drew hb _) hb'⟩) | (go_split_ands; exact ⟨(Sb2O.alloc (x := x) (v := q) (B := w.heap.size) (C := w.heap.size + 1) ⟨⟨by assumption, by assumption, by assumption, by assumption, by assumption⟩, by assumption⟩ _).1.1, (Sb2O.alloc (x := x) (v := q) (B := w.heap.size) (C := w.heap.size + 1) ⟨⟨by assumption, by assumption, by assumption, by assumption, by assumption⟩, by assumption⟩ _).1.2.1, (Sb2O.alloc (x := x) (v := q) (B := w.heap.size) (C := w.heap.size + 1) ⟨⟨by assumption, by assumption, by assumption, by assumption, by assumption⟩, by assumption⟩ _).1.2.2.1, (Sb2O.alloc (x := x) (v := q) (B := w.heap.size) (C := w.heap.size + 1) ⟨⟨by assumption, by assumption, by assumption, by assumption, by assumption⟩, by assumption⟩ _).1.2.2.2.1, (Sb2O.alloc (x := x) (v := q) (B := w.heap.size) (C := w.heap.size + 1) ⟨⟨by assumption, by assumption, by assumption, by assumption, by assumption⟩, by assumption⟩ _).1.2.2.2.2, (Sb2O.alloc (x := x) (v := q) (B := w.heap.size) (C := w.heap.size + 1) ⟨⟨by assumption, by assumption, by assumption, by assumption, by assumption⟩, by assumption⟩ _).2, bal (by assumption) _⟩) | (go_split_ands; exact ⟨(Sb2O.allocDrew (x := x) (v := q) (B := w.heap.size) (C := w.heap.size + 1) ⟨⟨by assumption, by assumption, by assumption, by assumption, by assumption⟩, by assumption⟩ _).1.1, (Sb2O.allocDrew (x := x) (v := q) (B := w.heap.size) (C := w.heap.size + 1) ⟨⟨by assumption, by assumption, by assumption, by assumption, by assumption⟩, by assumption⟩ _).1.2.1, (Sb2O.allocDrew (x := x) (v := q) (B := w.heap.size) (C := w.heap.size + 1) ⟨⟨by assumption, by assumption, by assumption, by assumption, by assumption⟩, by assumption⟩ _).1.2.2.1, (Sb2O.allocDrew (x := x) (v := q) (B := w.heap.size) (C := w.heap.size + 1) ⟨⟨by assumption, by assumption, by assumption, by assumption, by assumption⟩, by assumption⟩ _).1.2.2.2.1, (Sb2O.allocDrew (x := x) (v := q) (B := w.heap.size) (C := w.heap.size + 1) ⟨⟨by assumption, by assumption, by assumption, by assumption, by assumption⟩, by assumption⟩ _).1.2.2.2.2, (Sb2O.allocDrew (x := x) (v := q) (B := w.heap.size) (C := w.heap.size + 1) ⟨⟨by assumption, by assumption, by assumption, by assumption, by assumption⟩, by assumption⟩ _).2, bal_drew (by assumption) _⟩)) (first | (go_at_call 53; refine (HC0.out _ _ ?hn).mono ?_; (case hn => first | exact (World.cell?_alloc_at _ _ _ _ (by simp)).trans rfl | simp); rintro e w' ⟨rfl, rfl⟩) | (go_at_call 58; refine (HC1.out _).mono ?_; rintro e w' ⟨rfl, hb'⟩) | (go_at_call 51; refine (HS.out _).mono ?_; rintro e w' ⟨rfl, hb'⟩))) | fail
        rename_i hHeld
        obtain ⟨p0, p1, p2, p3, p4, hf, hb⟩ := hHeld
        have hq9 : Sb2O _ w.heap.size (w.heap.size + 1) x q := ⟨⟨p0, p1, p2, p3, p4⟩, hf⟩
        go_wp2_with (go_at_call 54; refine (HL.out _ hq9).mono ?_; rintro e w' ⟨rfl, hb'⟩; first | have hb := bnext hb hb' | have hb := bnext (bal hb _) hb' | have hb := bnext (bal (bal hb _) _) hb' | have hb := bnext (bal (bal (bal hb _) _) _) hb' | have hb := bnext (bal (bal (bal (bal hb _) _) _) _) hb' | have hb := bnext (bal (bal (bal (bal (bal hb _) _) _) _) _) hb')
        go_ret2
        first | exact ⟨rfl, hb⟩ | exact ⟨rfl, (bal hb _)⟩ | exact ⟨rfl, (bal (bal hb _) _)⟩ | exact ⟨rfl, (bal (bal (bal hb _) _) _)⟩ | exact ⟨rfl, (bal (bal (bal (bal hb _) _) _) _)⟩ | exact ⟨rfl, (bal (bal (bal (bal (bal hb _) _) _) _) _)⟩
      · skip
        have hx' : okSb x = false := by simpa using hx
        have hv : lpV x g q = 0 := by unfold lpV; rw [hx', Bool.false_and]; exact if_neg (by decide)
        have hc : lpC x g q = 1 := by unfold lpC; rw [hx', Bool.false_and]; exact if_neg (by decide)
        rw [hv, hc]
        clear hv hc
        have HS := Lib.hid (fun W => by have h := substationCode_any x true W hs; rw [hx'] at h; exact h)
        have HC0 := Lib.hid (fun W b hc => by have h := isPower_free g b W hc; rw [h1] at h; exact h)
        have HC1 := Lib.hid (fun W => by have h := isPumped_any q W; rw [h2] at h; exact h)
        clear hx hx' hr
        have hp := Sb2O.new w x q 34 2
        have ⟨⟨p0, p1, p2, p3, p4⟩, hf⟩ := hp
        have hb : Below w.heap.size w ((w.alloc (.cells #[.string x.id, .int .i64 x.nd, .int .i64 x.tr, .int .i64 x.su, .int .i64 x.re] 34)).alloc (.cells #[.int .i64 q] 2)) := bal (bal (Below.refl _ _) _) _
        go_enter Try.func30, Try.ntmps30
        go_wp2_with fail
        first | (go_region_held3 (fun w' => w'.cell? ⟨w.heap.size, 0, none⟩ = some (.string x.id) ∧ w'.cell? ⟨w.heap.size, 1, none⟩ = some (.int .i64 x.nd) ∧ w'.cell? ⟨w.heap.size, 2, none⟩ = some (.int .i64 x.tr) ∧ w'.cell? ⟨w.heap.size, 3, none⟩ = some (.int .i64 x.su) ∧ w'.cell? ⟨w.heap.size, 4, none⟩ = some (.int .i64 x.re) ∧ w'.cell? ⟨w.heap.size + 1, 0, none⟩ = some (.int .i64 q) ∧ Below w.heap.size w w') (first | assumption | exact ⟨p0, p1, p2, p3, p4, hf, below_drewN hb 1⟩ | (go_split_ands; have hq := Sb2O.next (x := x) (v := q) (B := w.heap.size) (C := w.heap.size + 1) ⟨⟨by assumption, by assumption, by assumption, by assumption, by assumption⟩, by assumption⟩ hb'; exact ⟨hq.1.1, hq.1.2.1, hq.1.2.2.1, hq.1.2.2.2.1, hq.1.2.2.2.2, hq.2, bnext (by assumption) hb'⟩) | exact ⟨(Sb2O.allocDrew hp _).1.1, (Sb2O.allocDrew hp _).1.2.1, (Sb2O.allocDrew hp _).1.2.2.1, (Sb2O.allocDrew hp _).1.2.2.2.1, (Sb2O.allocDrew hp _).1.2.2.2.2, (Sb2O.allocDrew hp _).2, bal_drew hb _⟩ | (have hq := Sb2O.next (Sb2O.allocDrew hp _) hb'; exact ⟨hq.1.1, hq.1.2.1, hq.1.2.2.1, hq.1.2.2.2.1, hq.1.2.2.2.2, hq.2, bnext (bal_drew hb _) hb'⟩) | (go_split_ands; exact ⟨(Sb2O.alloc (x := x) (v := q) (B := w.heap.size) (C := w.heap.size + 1) ⟨⟨by assumption, by assumption, by assumption, by assumption, by assumption⟩, by assumption⟩ _).1.1, (Sb2O.alloc (x := x) (v := q) (B := w.heap.size) (C := w.heap.size + 1) ⟨⟨by assumption, by assumption, by assumption, by assumption, by assumption⟩, by assumption⟩ _).1.2.1, (Sb2O.alloc (x := x) (v := q) (B := w.heap.size) (C := w.heap.size + 1) ⟨⟨by assumption, by assumption, by assumption, by assumption, by assumption⟩, by assumption⟩ _).1.2.2.1, (Sb2O.alloc (x := x) (v := q) (B := w.heap.size) (C := w.heap.size + 1) ⟨⟨by assumption, by assumption, by assumption, by assumption, by assumption⟩, by assumption⟩ _).1.2.2.2.1, (Sb2O.alloc (x := x) (v := q) (B := w.heap.size) (C := w.heap.size + 1) ⟨⟨by assumption, by assumption, by assumption, by assumption, by assumption⟩, by assumption⟩ _).1.2.2.2.2, (Sb2O.alloc (x := x) (v := q) (B := w.heap.size) (C := w.heap.size + 1) ⟨⟨by assumption, by assumption, by assumption, by assumption, by assumption⟩, by assumption⟩ _).2, bal (by assumption) _⟩) | (go_split_ands; exact ⟨(Sb2O.allocDrew (x := x) (v := q) (B := w.heap.size) (C := w.heap.size + 1) ⟨⟨by assumption, by assumption, by assumption, by assumption, by assumption⟩, by assumption⟩ _).1.1, (Sb2O.allocDrew (x := x) (v := q) (B := w.heap.size) (C := w.heap.size + 1) ⟨⟨by assumption, by assumption, by assumption, by assumption, by assumption⟩, by assumption⟩ _).1.2.1, (Sb2O.allocDrew (x := x) (v := q) (B := w.heap.size) (C := w.heap.size + 1) ⟨⟨by assumption, by assumption, by assumption, by assumption, by assumption⟩, by assumption⟩ _).1.2.2.1, (Sb2O.allocDrew (x := x) (v := q) (B := w.heap.size) (C := w.heap.size + 1) ⟨⟨by assumption, by assumption, by assumption, by assumption, by assumption⟩, by assumption⟩ _).1.2.2.2.1, (Sb2O.allocDrew (x := x) (v := q) (B := w.heap.size) (C := w.heap.size + 1) ⟨⟨by assumption, by assumption, by assumption, by assumption, by assumption⟩, by assumption⟩ _).1.2.2.2.2, (Sb2O.allocDrew (x := x) (v := q) (B := w.heap.size) (C := w.heap.size + 1) ⟨⟨by assumption, by assumption, by assumption, by assumption, by assumption⟩, by assumption⟩ _).2, bal_drew (by assumption) _⟩)) (first | (go_at_call 53; refine (HC0.out _ _ ?hn).mono ?_; (case hn => first | exact (World.cell?_alloc_at _ _ _ _ (by simp)).trans rfl | simp); rintro e w' ⟨rfl, rfl⟩) | (go_at_call 58; refine (HC1.out _).mono ?_; rintro e w' ⟨rfl, hb'⟩) | (go_at_call 51; refine (HS.out _).mono ?_; rintro e w' ⟨rfl, hb'⟩))) | fail
        rename_i hHeld
        obtain ⟨p0, p1, p2, p3, p4, hf, hb⟩ := hHeld
        go_wp2
        go_ret2
        exact ⟨rfl, hb⟩
    · have h2' : inB q 0 100000 = false := by simpa using h2
      have hr : (inB g 0 100000000 && inB q 0 100000) = false := by simp [*]
      have hv : lpV x g q = 0 := by unfold lpV; rw [hr, Bool.and_false]; exact if_neg (by decide)
      have hc : lpC x g q = argC (okSb x) false := by unfold lpC; rw [hr, Bool.and_false]; exact if_neg (by decide)
      rw [hv, hc]
      clear hv hc
      have HS := Lib.hid (fun W => substationCode_any x false W hs)
      have hk : argC (okSb x) false ≠ 0 := by unfold argC; split <;> decide
      generalize argC (okSb x) false = k at *
      have HC0 := Lib.hid (fun W b hc => by have h := isPower_free g b W hc; rw [h1] at h; exact h)
      have HC1 := Lib.hid (fun W => by have h := isPumped_any q W; rw [h2'] at h; exact h)
      have hp := Sb2O.new w x q 34 2
      have ⟨⟨p0, p1, p2, p3, p4⟩, hf⟩ := hp
      have hb : Below w.heap.size w ((w.alloc (.cells #[.string x.id, .int .i64 x.nd, .int .i64 x.tr, .int .i64 x.su, .int .i64 x.re] 34)).alloc (.cells #[.int .i64 q] 2)) := bal (bal (Below.refl _ _) _) _
      go_enter Try.func30, Try.ntmps30
      go_wp2_with fail
      first | (go_region_held3 (fun w' => w'.cell? ⟨w.heap.size, 0, none⟩ = some (.string x.id) ∧ w'.cell? ⟨w.heap.size, 1, none⟩ = some (.int .i64 x.nd) ∧ w'.cell? ⟨w.heap.size, 2, none⟩ = some (.int .i64 x.tr) ∧ w'.cell? ⟨w.heap.size, 3, none⟩ = some (.int .i64 x.su) ∧ w'.cell? ⟨w.heap.size, 4, none⟩ = some (.int .i64 x.re) ∧ w'.cell? ⟨w.heap.size + 1, 0, none⟩ = some (.int .i64 q) ∧ Below w.heap.size w w') (first | assumption | exact ⟨p0, p1, p2, p3, p4, hf, below_drewN hb 1⟩ | (go_split_ands; have hq := Sb2O.next (x := x) (v := q) (B := w.heap.size) (C := w.heap.size + 1) ⟨⟨by assumption, by assumption, by assumption, by assumption, by assumption⟩, by assumption⟩ hb'; exact ⟨hq.1.1, hq.1.2.1, hq.1.2.2.1, hq.1.2.2.2.1, hq.1.2.2.2.2, hq.2, bnext (by assumption) hb'⟩) | exact ⟨(Sb2O.allocDrew hp _).1.1, (Sb2O.allocDrew hp _).1.2.1, (Sb2O.allocDrew hp _).1.2.2.1, (Sb2O.allocDrew hp _).1.2.2.2.1, (Sb2O.allocDrew hp _).1.2.2.2.2, (Sb2O.allocDrew hp _).2, bal_drew hb _⟩ | (have hq := Sb2O.next (Sb2O.allocDrew hp _) hb'; exact ⟨hq.1.1, hq.1.2.1, hq.1.2.2.1, hq.1.2.2.2.1, hq.1.2.2.2.2, hq.2, bnext (bal_drew hb _) hb'⟩) | (go_split_ands; exact ⟨(Sb2O.alloc (x := x) (v := q) (B := w.heap.size) (C := w.heap.size + 1) ⟨⟨by assumption, by assumption, by assumption, by assumption, by assumption⟩, by assumption⟩ _).1.1, (Sb2O.alloc (x := x) (v := q) (B := w.heap.size) (C := w.heap.size + 1) ⟨⟨by assumption, by assumption, by assumption, by assumption, by assumption⟩, by assumption⟩ _).1.2.1, (Sb2O.alloc (x := x) (v := q) (B := w.heap.size) (C := w.heap.size + 1) ⟨⟨by assumption, by assumption, by assumption, by assumption, by assumption⟩, by assumption⟩ _).1.2.2.1, (Sb2O.alloc (x := x) (v := q) (B := w.heap.size) (C := w.heap.size + 1) ⟨⟨by assumption, by assumption, by assumption, by assumption, by assumption⟩, by assumption⟩ _).1.2.2.2.1, (Sb2O.alloc (x := x) (v := q) (B := w.heap.size) (C := w.heap.size + 1) ⟨⟨by assumption, by assumption, by assumption, by assumption, by assumption⟩, by assumption⟩ _).1.2.2.2.2, (Sb2O.alloc (x := x) (v := q) (B := w.heap.size) (C := w.heap.size + 1) ⟨⟨by assumption, by assumption, by assumption, by assumption, by assumption⟩, by assumption⟩ _).2, bal (by assumption) _⟩) | (go_split_ands; exact ⟨(Sb2O.allocDrew (x := x) (v := q) (B := w.heap.size) (C := w.heap.size + 1) ⟨⟨by assumption, by assumption, by assumption, by assumption, by assumption⟩, by assumption⟩ _).1.1, (Sb2O.allocDrew (x := x) (v := q) (B := w.heap.size) (C := w.heap.size + 1) ⟨⟨by assumption, by assumption, by assumption, by assumption, by assumption⟩, by assumption⟩ _).1.2.1, (Sb2O.allocDrew (x := x) (v := q) (B := w.heap.size) (C := w.heap.size + 1) ⟨⟨by assumption, by assumption, by assumption, by assumption, by assumption⟩, by assumption⟩ _).1.2.2.1, (Sb2O.allocDrew (x := x) (v := q) (B := w.heap.size) (C := w.heap.size + 1) ⟨⟨by assumption, by assumption, by assumption, by assumption, by assumption⟩, by assumption⟩ _).1.2.2.2.1, (Sb2O.allocDrew (x := x) (v := q) (B := w.heap.size) (C := w.heap.size + 1) ⟨⟨by assumption, by assumption, by assumption, by assumption, by assumption⟩, by assumption⟩ _).1.2.2.2.2, (Sb2O.allocDrew (x := x) (v := q) (B := w.heap.size) (C := w.heap.size + 1) ⟨⟨by assumption, by assumption, by assumption, by assumption, by assumption⟩, by assumption⟩ _).2, bal_drew (by assumption) _⟩)) (first | (go_at_call 53; refine (HC0.out _ _ ?hn).mono ?_; (case hn => first | exact (World.cell?_alloc_at _ _ _ _ (by simp)).trans rfl | simp); rintro e w' ⟨rfl, rfl⟩) | (go_at_call 58; refine (HC1.out _).mono ?_; rintro e w' ⟨rfl, hb'⟩) | (go_at_call 51; refine (HS.out _).mono ?_; rintro e w' ⟨rfl, hb'⟩))) | fail
      rename_i hHeld
      obtain ⟨p0, p1, p2, p3, p4, hf, hb⟩ := hHeld
      go_wp2
      go_ret2
      exact ⟨rfl, hb⟩
  · have h1' : inB g 0 100000000 = false := by simpa using h1
    have hr : (inB g 0 100000000 && inB q 0 100000) = false := by simp [*]
    have hv : lpV x g q = 0 := by unfold lpV; rw [hr, Bool.and_false]; exact if_neg (by decide)
    have hc : lpC x g q = argC (okSb x) false := by unfold lpC; rw [hr, Bool.and_false]; exact if_neg (by decide)
    rw [hv, hc]
    clear hv hc
    have HS := Lib.hid (fun W => substationCode_any x false W hs)
    have hk : argC (okSb x) false ≠ 0 := by unfold argC; split <;> decide
    generalize argC (okSb x) false = k at *
    have HC0 := Lib.hid (fun W b hc => by have h := isPower_free g b W hc; rw [h1'] at h; exact h)
    have hp := Sb2O.new w x q 34 2
    have ⟨⟨p0, p1, p2, p3, p4⟩, hf⟩ := hp
    have hb : Below w.heap.size w ((w.alloc (.cells #[.string x.id, .int .i64 x.nd, .int .i64 x.tr, .int .i64 x.su, .int .i64 x.re] 34)).alloc (.cells #[.int .i64 q] 2)) := bal (bal (Below.refl _ _) _) _
    have ⟨⟨r0, r1, r2, r3, r4⟩, rf⟩ := Sb2O.alloc hp (.cells #[.int .i64 g] 2)
    go_enter Try.func30, Try.ntmps30
    go_wp2_with fail
    first | (go_region_with (first | (go_at_call 53; refine (HC0.out _ _ ?hn).mono ?_; (case hn => first | exact (World.cell?_alloc_at _ _ _ _ (by simp)).trans rfl | simp); rintro e w' ⟨rfl, rfl⟩) | (go_at_call 51; refine (HS.out _).mono ?_; rintro e w' ⟨rfl, hb'⟩))) | fail
    all_goals go_wp2
    all_goals go_ret2
    all_goals first | exact ⟨rfl, bnext hb hb'⟩ | exact ⟨rfl, bnext (bal_drew hb _) hb'⟩ | exact ⟨rfl, bnext (bal hb _) hb'⟩ | exact ⟨rfl, bnext (below_drewN (bal_drew hb _) 1) hb'⟩

theorem ltAsk_any (B C : Nat) (x : Sb) (p t : Int) (w : World) (hp : Sb2O w B C x p) (h : exB x p) (q0 : 0 ≤ t) (q1 : t ≤ 100000) :
    Calls Try.prog 65 #[.int .i64 t, .pointer (some ⟨B, 0, none⟩), .pointer (some ⟨C, 0, none⟩)] w fun e w' => e = .returned (.int .i64 (powI t x.su x.re p 100000)) ∧ Below w.heap.size w w' := by
  have HP := Lib.hid (fun W => power_any { x with tr := t } p 100000 W ⟨⟨q0, q1⟩, h.2⟩ (by omega) (by omega))
  simp only at HP
  generalize powI t x.su x.re p 100000 = k at *
  have ⟨⟨p0, p1, p2, p3, p4⟩, hf⟩ := hp
  have hb : Below w.heap.size w w := Below.refl _ _
  have hf2 := (Sb2O.alloc hp (.cells #[.string x.id, .int .i64 x.nd, .int .i64 t, .int .i64 x.su, .int .i64 x.re] 34)).2
  have hb2 : Below w.heap.size w (w.alloc (.cells #[.string x.id, .int .i64 x.nd, .int .i64 t, .int .i64 x.su, .int .i64 x.re] 34)) := bal hb _
  go_enter Try.func65, Try.ntmps65
  go_wp2_with fail
  refine (HP.out _).mono ?_
  rintro e w' ⟨rfl, hb'⟩
  go_wp2
  go_ret
  exact ⟨rfl, bnext hb2 hb'⟩

theorem implLeastTransfer_any (x : Sb) (p : Int) (g : Int) (w : World) (hs : x.id.size ≤ maxLen) : Calls Try.prog 28 #[.agg #[.string x.id, .int .i64 x.nd, .int .i64 x.tr, .int .i64 x.su, .int .i64 x.re], .int .i64 p, .int .i64 g] w fun e w' => e = .returned (.tuple #[.int .i64 (ltV x p g), .int .i64 (ltC x p g)]) ∧ Below w.heap.size w w' := by
  by_cases h1 : inB p 0 18000 = true
  · skip
    by_cases h2 : inB g 0 100000000 = true
    · skip
      have hr : (inB p 0 18000 && inB g 0 100000000) = true := by simp [*]
      by_cases hx : okSb x = true
      · skip
        have HS := Lib.hid (fun W => by have h := substationCode_any x true W hs; rw [hx] at h; exact h)
        have HC0 := Lib.hid (fun W b hc => by have h := isWater_free p b W hc; rw [h1] at h; exact h)
        have HC1 := Lib.hid (fun W b hc => by have h := isPower_free g b W hc; rw [h2] at h; exact h)
        have hv : ltV x p g = lfV 100000 (needT x p g) := by unfold ltV; rw [hx, hr]; exact if_pos rfl
        have hc : ltC x p g = lfC 100000 (needT x p g) := by unfold ltC; rw [hx, hr]; exact if_pos rfl
        rw [hv, hc]
        clear hv hc hr
        have hq1 := inB_iff.1 h1
        have hq2 := inB_iff.1 h2
        have hE := okSb_ex hx p hq1.1 hq1.2
        have HL := Lib.hid (fun W (hW : Sb2O W w.heap.size (w.heap.size + 1) x p) => leastFor_any 65 #[] #[.pointer (some ⟨w.heap.size, 0, none⟩), .pointer (some ⟨w.heap.size + 1, 0, none⟩)] g 1 100000 (fun t => powI t x.su x.re p 100000) W (enters_of Try.func65 (by kernel_rfl) rfl) (by omega) (by omega) (by omega)
          (fun wr t a b hbr => by
            have := ltAsk_any w.heap.size (w.heap.size + 1) x p t wr (hW.next hbr) hE (by omega) b
            simpa using this)
          (fun a b k l m => pow_transfer a b x.su x.re p 100000 (by omega) (by omega) l))
        change Hid (∀ W, _ → Calls _ _ _ _ fun e w' => e = .returned (.tuple #[.int .i64 (lfV 100000 (needT x p g)), .int .i64 (lfC 100000 (needT x p g))]) ∧ _) at HL
        generalize needT x p g = r at *
        have hp := Sb2O.new w x p 34 2
        have ⟨⟨p0, p1, p2, p3, p4⟩, hf⟩ := hp
        have hb : Below w.heap.size w ((w.alloc (.cells #[.string x.id, .int .i64 x.nd, .int .i64 x.tr, .int .i64 x.su, .int .i64 x.re] 34)).alloc (.cells #[.int .i64 p] 2)) := bal (bal (Below.refl _ _) _) _
        go_enter Try.func28, Try.ntmps28
        go_wp2_with fail
        first | (go_region_held3 (fun w' => w'.cell? ⟨w.heap.size, 0, none⟩ = some (.string x.id) ∧ w'.cell? ⟨w.heap.size, 1, none⟩ = some (.int .i64 x.nd) ∧ w'.cell? ⟨w.heap.size, 2, none⟩ = some (.int .i64 x.tr) ∧ w'.cell? ⟨w.heap.size, 3, none⟩ = some (.int .i64 x.su) ∧ w'.cell? ⟨w.heap.size, 4, none⟩ = some (.int .i64 x.re) ∧ w'.cell? ⟨w.heap.size + 1, 0, none⟩ = some (.int .i64 p) ∧ Below w.heap.size w w') (first | assumption | exact ⟨p0, p1, p2, p3, p4, hf, below_drewN hb 1⟩ | (go_split_ands; have hq := Sb2O.next (x := x) (v := p) (B := w.heap.size) (C := w.heap.size + 1) ⟨⟨by assumption, by assumption, by assumption, by assumption, by assumption⟩, by assumption⟩ hb'; exact ⟨hq.1.1, hq.1.2.1, hq.1.2.2.1, hq.1.2.2.2.1, hq.1.2.2.2.2, hq.2, bnext (by assumption) hb'⟩) | exact ⟨(Sb2O.allocDrew hp _).1.1, (Sb2O.allocDrew hp _).1.2.1, (Sb2O.allocDrew hp _).1.2.2.1, (Sb2O.allocDrew hp _).1.2.2.2.1, (Sb2O.allocDrew hp _).1.2.2.2.2, (Sb2O.allocDrew hp _).2, bal_drew hb _⟩ | (have hq := Sb2O.next (Sb2O.allocDrew hp _) hb'; exact ⟨hq.1.1, hq.1.2.1, hq.1.2.2.1, hq.1.2.2.2.1, hq.1.2.2.2.2, hq.2, bnext (bal_drew hb _) hb'⟩) | (go_split_ands; exact ⟨(Sb2O.alloc (x := x) (v := p) (B := w.heap.size) (C := w.heap.size + 1) ⟨⟨by assumption, by assumption, by assumption, by assumption, by assumption⟩, by assumption⟩ _).1.1, (Sb2O.alloc (x := x) (v := p) (B := w.heap.size) (C := w.heap.size + 1) ⟨⟨by assumption, by assumption, by assumption, by assumption, by assumption⟩, by assumption⟩ _).1.2.1, (Sb2O.alloc (x := x) (v := p) (B := w.heap.size) (C := w.heap.size + 1) ⟨⟨by assumption, by assumption, by assumption, by assumption, by assumption⟩, by assumption⟩ _).1.2.2.1, (Sb2O.alloc (x := x) (v := p) (B := w.heap.size) (C := w.heap.size + 1) ⟨⟨by assumption, by assumption, by assumption, by assumption, by assumption⟩, by assumption⟩ _).1.2.2.2.1, (Sb2O.alloc (x := x) (v := p) (B := w.heap.size) (C := w.heap.size + 1) ⟨⟨by assumption, by assumption, by assumption, by assumption, by assumption⟩, by assumption⟩ _).1.2.2.2.2, (Sb2O.alloc (x := x) (v := p) (B := w.heap.size) (C := w.heap.size + 1) ⟨⟨by assumption, by assumption, by assumption, by assumption, by assumption⟩, by assumption⟩ _).2, bal (by assumption) _⟩) | (go_split_ands; exact ⟨(Sb2O.allocDrew (x := x) (v := p) (B := w.heap.size) (C := w.heap.size + 1) ⟨⟨by assumption, by assumption, by assumption, by assumption, by assumption⟩, by assumption⟩ _).1.1, (Sb2O.allocDrew (x := x) (v := p) (B := w.heap.size) (C := w.heap.size + 1) ⟨⟨by assumption, by assumption, by assumption, by assumption, by assumption⟩, by assumption⟩ _).1.2.1, (Sb2O.allocDrew (x := x) (v := p) (B := w.heap.size) (C := w.heap.size + 1) ⟨⟨by assumption, by assumption, by assumption, by assumption, by assumption⟩, by assumption⟩ _).1.2.2.1, (Sb2O.allocDrew (x := x) (v := p) (B := w.heap.size) (C := w.heap.size + 1) ⟨⟨by assumption, by assumption, by assumption, by assumption, by assumption⟩, by assumption⟩ _).1.2.2.2.1, (Sb2O.allocDrew (x := x) (v := p) (B := w.heap.size) (C := w.heap.size + 1) ⟨⟨by assumption, by assumption, by assumption, by assumption, by assumption⟩, by assumption⟩ _).1.2.2.2.2, (Sb2O.allocDrew (x := x) (v := p) (B := w.heap.size) (C := w.heap.size + 1) ⟨⟨by assumption, by assumption, by assumption, by assumption, by assumption⟩, by assumption⟩ _).2, bal_drew (by assumption) _⟩)) (first | (go_at_call 52; refine (HC0.out _ _ ?hn).mono ?_; (case hn => first | exact (World.cell?_alloc_at _ _ _ _ (by simp)).trans rfl | simp); rintro e w' ⟨rfl, rfl⟩) | (go_at_call 53; refine (HC1.out _ _ ?hn).mono ?_; (case hn => first | exact (World.cell?_alloc_at _ _ _ _ (by simp)).trans rfl | simp); rintro e w' ⟨rfl, rfl⟩) | (go_at_call 51; refine (HS.out _).mono ?_; rintro e w' ⟨rfl, hb'⟩))) | fail
        rename_i hHeld
        obtain ⟨p0, p1, p2, p3, p4, hf, hb⟩ := hHeld
        have hq9 : Sb2O _ w.heap.size (w.heap.size + 1) x p := ⟨⟨p0, p1, p2, p3, p4⟩, hf⟩
        go_wp2_with (go_at_call 54; refine (HL.out _ hq9).mono ?_; rintro e w' ⟨rfl, hb'⟩; first | have hb := bnext hb hb' | have hb := bnext (bal hb _) hb' | have hb := bnext (bal (bal hb _) _) hb' | have hb := bnext (bal (bal (bal hb _) _) _) hb' | have hb := bnext (bal (bal (bal (bal hb _) _) _) _) hb' | have hb := bnext (bal (bal (bal (bal (bal hb _) _) _) _) _) hb')
        go_ret2
        first | exact ⟨rfl, hb⟩ | exact ⟨rfl, (bal hb _)⟩ | exact ⟨rfl, (bal (bal hb _) _)⟩ | exact ⟨rfl, (bal (bal (bal hb _) _) _)⟩ | exact ⟨rfl, (bal (bal (bal (bal hb _) _) _) _)⟩ | exact ⟨rfl, (bal (bal (bal (bal (bal hb _) _) _) _) _)⟩
      · skip
        have hx' : okSb x = false := by simpa using hx
        have hv : ltV x p g = 0 := by unfold ltV; rw [hx', Bool.false_and]; exact if_neg (by decide)
        have hc : ltC x p g = 1 := by unfold ltC; rw [hx', Bool.false_and]; exact if_neg (by decide)
        rw [hv, hc]
        clear hv hc
        have HS := Lib.hid (fun W => by have h := substationCode_any x true W hs; rw [hx'] at h; exact h)
        have HC0 := Lib.hid (fun W b hc => by have h := isWater_free p b W hc; rw [h1] at h; exact h)
        have HC1 := Lib.hid (fun W b hc => by have h := isPower_free g b W hc; rw [h2] at h; exact h)
        clear hx hx' hr
        have hp := Sb2O.new w x p 34 2
        have ⟨⟨p0, p1, p2, p3, p4⟩, hf⟩ := hp
        have hb : Below w.heap.size w ((w.alloc (.cells #[.string x.id, .int .i64 x.nd, .int .i64 x.tr, .int .i64 x.su, .int .i64 x.re] 34)).alloc (.cells #[.int .i64 p] 2)) := bal (bal (Below.refl _ _) _) _
        go_enter Try.func28, Try.ntmps28
        go_wp2_with fail
        first | (go_region_held3 (fun w' => w'.cell? ⟨w.heap.size, 0, none⟩ = some (.string x.id) ∧ w'.cell? ⟨w.heap.size, 1, none⟩ = some (.int .i64 x.nd) ∧ w'.cell? ⟨w.heap.size, 2, none⟩ = some (.int .i64 x.tr) ∧ w'.cell? ⟨w.heap.size, 3, none⟩ = some (.int .i64 x.su) ∧ w'.cell? ⟨w.heap.size, 4, none⟩ = some (.int .i64 x.re) ∧ w'.cell? ⟨w.heap.size + 1, 0, none⟩ = some (.int .i64 p) ∧ Below w.heap.size w w') (first | assumption | exact ⟨p0, p1, p2, p3, p4, hf, below_drewN hb 1⟩ | (go_split_ands; have hq := Sb2O.next (x := x) (v := p) (B := w.heap.size) (C := w.heap.size + 1) ⟨⟨by assumption, by assumption, by assumption, by assumption, by assumption⟩, by assumption⟩ hb'; exact ⟨hq.1.1, hq.1.2.1, hq.1.2.2.1, hq.1.2.2.2.1, hq.1.2.2.2.2, hq.2, bnext (by assumption) hb'⟩) | exact ⟨(Sb2O.allocDrew hp _).1.1, (Sb2O.allocDrew hp _).1.2.1, (Sb2O.allocDrew hp _).1.2.2.1, (Sb2O.allocDrew hp _).1.2.2.2.1, (Sb2O.allocDrew hp _).1.2.2.2.2, (Sb2O.allocDrew hp _).2, bal_drew hb _⟩ | (have hq := Sb2O.next (Sb2O.allocDrew hp _) hb'; exact ⟨hq.1.1, hq.1.2.1, hq.1.2.2.1, hq.1.2.2.2.1, hq.1.2.2.2.2, hq.2, bnext (bal_drew hb _) hb'⟩) | (go_split_ands; exact ⟨(Sb2O.alloc (x := x) (v := p) (B := w.heap.size) (C := w.heap.size + 1) ⟨⟨by assumption, by assumption, by assumption, by assumption, by assumption⟩, by assumption⟩ _).1.1, (Sb2O.alloc (x := x) (v := p) (B := w.heap.size) (C := w.heap.size + 1) ⟨⟨by assumption, by assumption, by assumption, by assumption, by assumption⟩, by assumption⟩ _).1.2.1, (Sb2O.alloc (x := x) (v := p) (B := w.heap.size) (C := w.heap.size + 1) ⟨⟨by assumption, by assumption, by assumption, by assumption, by assumption⟩, by assumption⟩ _).1.2.2.1, (Sb2O.alloc (x := x) (v := p) (B := w.heap.size) (C := w.heap.size + 1) ⟨⟨by assumption, by assumption, by assumption, by assumption, by assumption⟩, by assumption⟩ _).1.2.2.2.1, (Sb2O.alloc (x := x) (v := p) (B := w.heap.size) (C := w.heap.size + 1) ⟨⟨by assumption, by assumption, by assumption, by assumption, by assumption⟩, by assumption⟩ _).1.2.2.2.2, (Sb2O.alloc (x := x) (v := p) (B := w.heap.size) (C := w.heap.size + 1) ⟨⟨by assumption, by assumption, by assumption, by assumption, by assumption⟩, by assumption⟩ _).2, bal (by assumption) _⟩) | (go_split_ands; exact ⟨(Sb2O.allocDrew (x := x) (v := p) (B := w.heap.size) (C := w.heap.size + 1) ⟨⟨by assumption, by assumption, by assumption, by assumption, by assumption⟩, by assumption⟩ _).1.1, (Sb2O.allocDrew (x := x) (v := p) (B := w.heap.size) (C := w.heap.size + 1) ⟨⟨by assumption, by assumption, by assumption, by assumption, by assumption⟩, by assumption⟩ _).1.2.1, (Sb2O.allocDrew (x := x) (v := p) (B := w.heap.size) (C := w.heap.size + 1) ⟨⟨by assumption, by assumption, by assumption, by assumption, by assumption⟩, by assumption⟩ _).1.2.2.1, (Sb2O.allocDrew (x := x) (v := p) (B := w.heap.size) (C := w.heap.size + 1) ⟨⟨by assumption, by assumption, by assumption, by assumption, by assumption⟩, by assumption⟩ _).1.2.2.2.1, (Sb2O.allocDrew (x := x) (v := p) (B := w.heap.size) (C := w.heap.size + 1) ⟨⟨by assumption, by assumption, by assumption, by assumption, by assumption⟩, by assumption⟩ _).1.2.2.2.2, (Sb2O.allocDrew (x := x) (v := p) (B := w.heap.size) (C := w.heap.size + 1) ⟨⟨by assumption, by assumption, by assumption, by assumption, by assumption⟩, by assumption⟩ _).2, bal_drew (by assumption) _⟩)) (first | (go_at_call 52; refine (HC0.out _ _ ?hn).mono ?_; (case hn => first | exact (World.cell?_alloc_at _ _ _ _ (by simp)).trans rfl | simp); rintro e w' ⟨rfl, rfl⟩) | (go_at_call 53; refine (HC1.out _ _ ?hn).mono ?_; (case hn => first | exact (World.cell?_alloc_at _ _ _ _ (by simp)).trans rfl | simp); rintro e w' ⟨rfl, rfl⟩) | (go_at_call 51; refine (HS.out _).mono ?_; rintro e w' ⟨rfl, hb'⟩))) | fail
        rename_i hHeld
        obtain ⟨p0, p1, p2, p3, p4, hf, hb⟩ := hHeld
        go_wp2
        go_ret2
        exact ⟨rfl, hb⟩
    · have h2' : inB g 0 100000000 = false := by simpa using h2
      have hr : (inB p 0 18000 && inB g 0 100000000) = false := by simp [*]
      have hv : ltV x p g = 0 := by unfold ltV; rw [hr, Bool.and_false]; exact if_neg (by decide)
      have hc : ltC x p g = argC (okSb x) false := by unfold ltC; rw [hr, Bool.and_false]; exact if_neg (by decide)
      rw [hv, hc]
      clear hv hc
      have HS := Lib.hid (fun W => substationCode_any x false W hs)
      have hk : argC (okSb x) false ≠ 0 := by unfold argC; split <;> decide
      generalize argC (okSb x) false = k at *
      have HC0 := Lib.hid (fun W b hc => by have h := isWater_free p b W hc; rw [h1] at h; exact h)
      have HC1 := Lib.hid (fun W b hc => by have h := isPower_free g b W hc; rw [h2'] at h; exact h)
      have hp := Sb2O.new w x p 34 2
      have ⟨⟨p0, p1, p2, p3, p4⟩, hf⟩ := hp
      have hb : Below w.heap.size w ((w.alloc (.cells #[.string x.id, .int .i64 x.nd, .int .i64 x.tr, .int .i64 x.su, .int .i64 x.re] 34)).alloc (.cells #[.int .i64 p] 2)) := bal (bal (Below.refl _ _) _) _
      go_enter Try.func28, Try.ntmps28
      go_wp2_with fail
      first | (go_region_held3 (fun w' => w'.cell? ⟨w.heap.size, 0, none⟩ = some (.string x.id) ∧ w'.cell? ⟨w.heap.size, 1, none⟩ = some (.int .i64 x.nd) ∧ w'.cell? ⟨w.heap.size, 2, none⟩ = some (.int .i64 x.tr) ∧ w'.cell? ⟨w.heap.size, 3, none⟩ = some (.int .i64 x.su) ∧ w'.cell? ⟨w.heap.size, 4, none⟩ = some (.int .i64 x.re) ∧ w'.cell? ⟨w.heap.size + 1, 0, none⟩ = some (.int .i64 p) ∧ Below w.heap.size w w') (first | assumption | exact ⟨p0, p1, p2, p3, p4, hf, below_drewN hb 1⟩ | (go_split_ands; have hq := Sb2O.next (x := x) (v := p) (B := w.heap.size) (C := w.heap.size + 1) ⟨⟨by assumption, by assumption, by assumption, by assumption, by assumption⟩, by assumption⟩ hb'; exact ⟨hq.1.1, hq.1.2.1, hq.1.2.2.1, hq.1.2.2.2.1, hq.1.2.2.2.2, hq.2, bnext (by assumption) hb'⟩) | exact ⟨(Sb2O.allocDrew hp _).1.1, (Sb2O.allocDrew hp _).1.2.1, (Sb2O.allocDrew hp _).1.2.2.1, (Sb2O.allocDrew hp _).1.2.2.2.1, (Sb2O.allocDrew hp _).1.2.2.2.2, (Sb2O.allocDrew hp _).2, bal_drew hb _⟩ | (have hq := Sb2O.next (Sb2O.allocDrew hp _) hb'; exact ⟨hq.1.1, hq.1.2.1, hq.1.2.2.1, hq.1.2.2.2.1, hq.1.2.2.2.2, hq.2, bnext (bal_drew hb _) hb'⟩) | (go_split_ands; exact ⟨(Sb2O.alloc (x := x) (v := p) (B := w.heap.size) (C := w.heap.size + 1) ⟨⟨by assumption, by assumption, by assumption, by assumption, by assumption⟩, by assumption⟩ _).1.1, (Sb2O.alloc (x := x) (v := p) (B := w.heap.size) (C := w.heap.size + 1) ⟨⟨by assumption, by assumption, by assumption, by assumption, by assumption⟩, by assumption⟩ _).1.2.1, (Sb2O.alloc (x := x) (v := p) (B := w.heap.size) (C := w.heap.size + 1) ⟨⟨by assumption, by assumption, by assumption, by assumption, by assumption⟩, by assumption⟩ _).1.2.2.1, (Sb2O.alloc (x := x) (v := p) (B := w.heap.size) (C := w.heap.size + 1) ⟨⟨by assumption, by assumption, by assumption, by assumption, by assumption⟩, by assumption⟩ _).1.2.2.2.1, (Sb2O.alloc (x := x) (v := p) (B := w.heap.size) (C := w.heap.size + 1) ⟨⟨by assumption, by assumption, by assumption, by assumption, by assumption⟩, by assumption⟩ _).1.2.2.2.2, (Sb2O.alloc (x := x) (v := p) (B := w.heap.size) (C := w.heap.size + 1) ⟨⟨by assumption, by assumption, by assumption, by assumption, by assumption⟩, by assumption⟩ _).2, bal (by assumption) _⟩) | (go_split_ands; exact ⟨(Sb2O.allocDrew (x := x) (v := p) (B := w.heap.size) (C := w.heap.size + 1) ⟨⟨by assumption, by assumption, by assumption, by assumption, by assumption⟩, by assumption⟩ _).1.1, (Sb2O.allocDrew (x := x) (v := p) (B := w.heap.size) (C := w.heap.size + 1) ⟨⟨by assumption, by assumption, by assumption, by assumption, by assumption⟩, by assumption⟩ _).1.2.1, (Sb2O.allocDrew (x := x) (v := p) (B := w.heap.size) (C := w.heap.size + 1) ⟨⟨by assumption, by assumption, by assumption, by assumption, by assumption⟩, by assumption⟩ _).1.2.2.1, (Sb2O.allocDrew (x := x) (v := p) (B := w.heap.size) (C := w.heap.size + 1) ⟨⟨by assumption, by assumption, by assumption, by assumption, by assumption⟩, by assumption⟩ _).1.2.2.2.1, (Sb2O.allocDrew (x := x) (v := p) (B := w.heap.size) (C := w.heap.size + 1) ⟨⟨by assumption, by assumption, by assumption, by assumption, by assumption⟩, by assumption⟩ _).1.2.2.2.2, (Sb2O.allocDrew (x := x) (v := p) (B := w.heap.size) (C := w.heap.size + 1) ⟨⟨by assumption, by assumption, by assumption, by assumption, by assumption⟩, by assumption⟩ _).2, bal_drew (by assumption) _⟩)) (first | (go_at_call 52; refine (HC0.out _ _ ?hn).mono ?_; (case hn => first | exact (World.cell?_alloc_at _ _ _ _ (by simp)).trans rfl | simp); rintro e w' ⟨rfl, rfl⟩) | (go_at_call 53; refine (HC1.out _ _ ?hn).mono ?_; (case hn => first | exact (World.cell?_alloc_at _ _ _ _ (by simp)).trans rfl | simp); rintro e w' ⟨rfl, rfl⟩) | (go_at_call 51; refine (HS.out _).mono ?_; rintro e w' ⟨rfl, hb'⟩))) | fail
      rename_i hHeld
      obtain ⟨p0, p1, p2, p3, p4, hf, hb⟩ := hHeld
      go_wp2
      go_ret2
      exact ⟨rfl, hb⟩
  · have h1' : inB p 0 18000 = false := by simpa using h1
    have hr : (inB p 0 18000 && inB g 0 100000000) = false := by simp [*]
    have hv : ltV x p g = 0 := by unfold ltV; rw [hr, Bool.and_false]; exact if_neg (by decide)
    have hc : ltC x p g = argC (okSb x) false := by unfold ltC; rw [hr, Bool.and_false]; exact if_neg (by decide)
    rw [hv, hc]
    clear hv hc
    have HS := Lib.hid (fun W => substationCode_any x false W hs)
    have hk : argC (okSb x) false ≠ 0 := by unfold argC; split <;> decide
    generalize argC (okSb x) false = k at *
    have HC0 := Lib.hid (fun W b hc => by have h := isWater_free p b W hc; rw [h1'] at h; exact h)
    have hp := Sb2O.new w x p 34 2
    have ⟨⟨p0, p1, p2, p3, p4⟩, hf⟩ := hp
    have hb : Below w.heap.size w ((w.alloc (.cells #[.string x.id, .int .i64 x.nd, .int .i64 x.tr, .int .i64 x.su, .int .i64 x.re] 34)).alloc (.cells #[.int .i64 p] 2)) := bal (bal (Below.refl _ _) _) _
    go_enter Try.func28, Try.ntmps28
    go_wp2_with fail
    first | (go_region_held (fun w' => w'.cell? ⟨w.heap.size, 0, none⟩ = some (.string x.id) ∧ w'.cell? ⟨w.heap.size, 1, none⟩ = some (.int .i64 x.nd) ∧ w'.cell? ⟨w.heap.size, 2, none⟩ = some (.int .i64 x.tr) ∧ w'.cell? ⟨w.heap.size, 3, none⟩ = some (.int .i64 x.su) ∧ w'.cell? ⟨w.heap.size, 4, none⟩ = some (.int .i64 x.re) ∧ w'.cell? ⟨w.heap.size + 1, 0, none⟩ = some (.int .i64 p) ∧ Below w.heap.size w w') (first | assumption | exact ⟨p0, p1, p2, p3, p4, hf, below_drewN hb 1⟩ | (go_split_ands; have hq := Sb2O.next (x := x) (v := p) (B := w.heap.size) (C := w.heap.size + 1) ⟨⟨by assumption, by assumption, by assumption, by assumption, by assumption⟩, by assumption⟩ hb'; exact ⟨hq.1.1, hq.1.2.1, hq.1.2.2.1, hq.1.2.2.2.1, hq.1.2.2.2.2, hq.2, bnext (by assumption) hb'⟩) | exact ⟨(Sb2O.allocDrew hp _).1.1, (Sb2O.allocDrew hp _).1.2.1, (Sb2O.allocDrew hp _).1.2.2.1, (Sb2O.allocDrew hp _).1.2.2.2.1, (Sb2O.allocDrew hp _).1.2.2.2.2, (Sb2O.allocDrew hp _).2, bal_drew hb _⟩ | (have hq := Sb2O.next (Sb2O.allocDrew hp _) hb'; exact ⟨hq.1.1, hq.1.2.1, hq.1.2.2.1, hq.1.2.2.2.1, hq.1.2.2.2.2, hq.2, bnext (bal_drew hb _) hb'⟩) | (go_split_ands; exact ⟨(Sb2O.alloc (x := x) (v := p) (B := w.heap.size) (C := w.heap.size + 1) ⟨⟨by assumption, by assumption, by assumption, by assumption, by assumption⟩, by assumption⟩ _).1.1, (Sb2O.alloc (x := x) (v := p) (B := w.heap.size) (C := w.heap.size + 1) ⟨⟨by assumption, by assumption, by assumption, by assumption, by assumption⟩, by assumption⟩ _).1.2.1, (Sb2O.alloc (x := x) (v := p) (B := w.heap.size) (C := w.heap.size + 1) ⟨⟨by assumption, by assumption, by assumption, by assumption, by assumption⟩, by assumption⟩ _).1.2.2.1, (Sb2O.alloc (x := x) (v := p) (B := w.heap.size) (C := w.heap.size + 1) ⟨⟨by assumption, by assumption, by assumption, by assumption, by assumption⟩, by assumption⟩ _).1.2.2.2.1, (Sb2O.alloc (x := x) (v := p) (B := w.heap.size) (C := w.heap.size + 1) ⟨⟨by assumption, by assumption, by assumption, by assumption, by assumption⟩, by assumption⟩ _).1.2.2.2.2, (Sb2O.alloc (x := x) (v := p) (B := w.heap.size) (C := w.heap.size + 1) ⟨⟨by assumption, by assumption, by assumption, by assumption, by assumption⟩, by assumption⟩ _).2, bal (by assumption) _⟩) | (go_split_ands; exact ⟨(Sb2O.allocDrew (x := x) (v := p) (B := w.heap.size) (C := w.heap.size + 1) ⟨⟨by assumption, by assumption, by assumption, by assumption, by assumption⟩, by assumption⟩ _).1.1, (Sb2O.allocDrew (x := x) (v := p) (B := w.heap.size) (C := w.heap.size + 1) ⟨⟨by assumption, by assumption, by assumption, by assumption, by assumption⟩, by assumption⟩ _).1.2.1, (Sb2O.allocDrew (x := x) (v := p) (B := w.heap.size) (C := w.heap.size + 1) ⟨⟨by assumption, by assumption, by assumption, by assumption, by assumption⟩, by assumption⟩ _).1.2.2.1, (Sb2O.allocDrew (x := x) (v := p) (B := w.heap.size) (C := w.heap.size + 1) ⟨⟨by assumption, by assumption, by assumption, by assumption, by assumption⟩, by assumption⟩ _).1.2.2.2.1, (Sb2O.allocDrew (x := x) (v := p) (B := w.heap.size) (C := w.heap.size + 1) ⟨⟨by assumption, by assumption, by assumption, by assumption, by assumption⟩, by assumption⟩ _).1.2.2.2.2, (Sb2O.allocDrew (x := x) (v := p) (B := w.heap.size) (C := w.heap.size + 1) ⟨⟨by assumption, by assumption, by assumption, by assumption, by assumption⟩, by assumption⟩ _).2, bal_drew (by assumption) _⟩)) (first | (go_at_call 52; refine (HC0.out _ _ ?hn).mono ?_; (case hn => first | exact (World.cell?_alloc_at _ _ _ _ (by simp)).trans rfl | simp); rintro e w' ⟨rfl, rfl⟩) | (go_at_call 51; refine (HS.out _).mono ?_; rintro e w' ⟨rfl, hb'⟩))) | fail
    rename_i hHeld
    obtain ⟨p0, p1, p2, p3, p4, hf, hb⟩ := hHeld
    go_wp2
    go_ret2
    exact ⟨rfl, hb⟩

end Go.Proofs.Ytdaedgdglammhab
