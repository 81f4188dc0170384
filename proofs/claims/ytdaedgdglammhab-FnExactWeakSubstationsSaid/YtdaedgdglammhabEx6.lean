/-
  The power of an exchanger of the model, and how warm its water goes back: the search for the meeting place, and the one
  for the last temperature with the same power.
-/
import Derived.Test.YtdaedgdglammhabEx3
import Derived.BigQuiet
namespace Go.Proofs.Ytdaedgdglammhab
open Go.ChangeShapes Go.WideShapes Go.ChangeAt Go.RowKit Go.Shelf

set_option linter.unusedVariables false
set_option linter.unusedSimpArgs false
set_option maxRecDepth 100000
theorem l12Given_any (b o : Nat) (x : Sb) (p q c : Int) (w : World) (hx : SbO w b o x) (h : exB x p) (q0 : 0 ≤ q) (q1 : q ≤ 100000) (c0 : 0 ≤ c) (c1 : c ≤ 18000) :
    Calls Try.prog 84 #[.pointer (some ⟨b, o, none⟩), .int .i64 p, .int .i64 q, .int .i64 c] w fun e w' => e = .returned (.int .i64 (atI (givI p q) (carI x.tr x.su x.re p) c)) ∧ Below w.heap.size w w' := by
  have hb : Below w.heap.size w w := Below.refl _ _
  have HM := Lib.hid (fun (W : World) (hW : Below w.heap.size w W) => l12Mean_any b o x p c W (hx.next hW) h c0 c1)
  have hx9 := h
  unfold exB at hx9
  have hm := mean_bd x.su x.re p c (by omega) (by omega)
  have hn := carnum_bd x.tr _ hx9.1.1 hx9.1.2 hm.1 hm.2
  have hP := fun W => l02Power_any q p c W (by omega) (by omega) (by omega) (by omega)
  unfold atI carI
  change ∀ W, Calls _ _ _ _ fun e w' => e = .returned (.int .i64 (givI p q c)) ∧ _ at hP
  generalize givI p q c = g at *
  have HP := Lib.hid hP
  clear hP
  generalize meanI x.su x.re p c = m at *
  have HD := Lib.hid (fun W => l01Div_any (x.tr * m) 100 W (by omega) (by omega) (by omega) (by omega) (by omega))
  have HD2 : Hid (∀ W, Calls Try.prog 68 #[.int .i64 (IntKind.i64.wrap (x.tr * m)), .int .i64 100] W fun e w' => e = .returned (.int .i64 (nearI (x.tr * m) 100)) ∧ W = w') := Lib.hid (fun W => by rw [IntWalk.i64_in _ (by omega)]; exact HD.out W)
  generalize nearI (x.tr * m) 100 = d at *
  rw [topI_max, lowI_min]
  clear hn hm
  obtain ⟨p0, p1, p2, p3, p4⟩ := hx
  go_enter Try.func84, Try.ntmps84
  go_wp2_with ((go_at_call 83; refine (HP.out _).mono ?_; rintro e w' ⟨rfl, rfl⟩))
  go_quiet (first | (go_at_call 61; exact quiet_drawn (HM.out _ (below_drewN hb _))) | (go_at_call 68; with_reducible exact quiet_same (HD.out _)) | (go_at_call 68; with_reducible exact quiet_same (HD2.out _)))
  go_wp2_with (first | (go_at_call 85; refine (l00Max_any _ _ _).mono ?_; rintro e w' ⟨rfl, rfl⟩) | (go_at_call 97; refine (l00Min_any _ _ _).mono ?_; rintro e w' ⟨rfl, rfl⟩))
  go_ret
  exact ⟨rfl, below_drewN hb _⟩

/-- the search for the meeting place goes on -/
theorem meet_up {lo hi l h m : Int} {G C : Int → Int} (I : (l = lo ∨ C l ≤ G l) ∧ (h ≤ hi → G h ≤ C h)) (k : C m ≤ G m) : (m = lo ∨ C m ≤ G m) ∧ (h ≤ hi → G h ≤ C h) := ⟨.inr k, I.2⟩
theorem meet_dn {lo hi l h m : Int} {G C : Int → Int} (I : (l = lo ∨ C l ≤ G l) ∧ (h ≤ hi → G h ≤ C h)) (k : ¬ C m ≤ G m) : (l = lo ∨ C l ≤ G l) ∧ (m ≤ hi → G m ≤ C m) := ⟨I.1, fun _ => by omega⟩

end Go.Proofs.Ytdaedgdglammhab
