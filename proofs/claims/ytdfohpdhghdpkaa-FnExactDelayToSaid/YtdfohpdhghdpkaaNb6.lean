import Derived.Test.YtdfohpdhghdpkaaMg778c3c7e
import Derived.Test.YtdfohpdhghdpkaaP4
/-
  Pipes of a list, of the model: water, delays; flows along a way, its pipe, the node ahead.
-/
namespace Go.Proofs.Ytdfohpdhghdpkaa
open Go.ChangeShapes Go.WideShapes Go.ChangeAt Go.RowKit
set_option maxRecDepth 100000
set_option linter.unusedVariables false

theorem l03WaterO_any (b o : Nat) (p : Pp) (w : World) (hp : PipeO w b o p) (l0 : 0 ≤ p.L) (l1 : p.L ≤ 10000) (d0 : 20 ≤ p.d) (d1 : p.d ≤ 1000) : Calls Try.prog 133 #[.pointer (some ⟨b, o, none⟩)] w fun e w' => e = .returned (.int .i64 (waterI p.L p.d)) ∧ Drawn w w' := by
  have ⟨p0, p1, p2, p3, p4, p5⟩ := hp
  clear hp p0 p1 p2 p5
  generalize p.L = L at *
  generalize p.d = d at *
  have k := water_num L d l0 l1 d0 d1
  have HD := Lib.hid (fun wx => l01Div_any (L * d * d * 7854) 10000 wx (by omega) (by omega) (by omega) (by omega) (by omega))
  have e1 : IntKind.i64.wrap (L * d) = L * d := IntWalk.i64_in _ (by omega)
  have e2 : IntKind.i64.wrap (L * d * d) = L * d * d := IntWalk.i64_in _ (by omega)
  have e3 : IntKind.i64.wrap (L * d * d * 7854) = L * d * d * 7854 := IntWalk.i64_in _ (by omega)
  unfold waterI
  clear k l0 l1 d0 d1
  go_enter Try.func133, Try.ntmps133
  go_wp2
  go_quiet ((go_at_call 84; exact quiet_same (HD.out _)))
  go_wp2
  go_ret
  exact ⟨rfl, ⟨_, rfl⟩⟩
theorem l03DelayO_any (b o : Nat) (p : Pp) (q : Int) (w : World) (hp : PipeO w b o p) (l0 : 0 ≤ p.L) (l1 : p.L ≤ 10000) (d0 : 20 ≤ p.d) (d1 : p.d ≤ 1000) (q0 : -100000 ≤ q) (q1 : q ≤ 100000) (hq : q ≠ 0) :
    Calls Try.prog 92 #[.pointer (some ⟨b, o, none⟩), .int .i64 q] w fun e w' => e = .returned (.int .i64 (delayI p.L p.d q)) ∧ Drawn w w' := by
  have hw := water_bd p.L p.d l0 l1 d0 d1
  have ha := absI_bd q 100000 q0 q1
  have a1 : 1 ≤ absI q := by rw [absI_nat]; omega
  have HW := Lib.hid (l03WaterO_any b o p w hp l0 l1 d0 d1)
  have HA := Lib.hid (fun wx => l03Abs_any q wx (by omega) (by omega))
  have z0 : 0 ≤ waterI p.L p.d + absI q - 1 := by omega
  have hdv := div_bd (waterI p.L p.d + absI q - 1) (absI q) (by omega) a1
  unfold delayI
  generalize waterI p.L p.d = r at *
  generalize absI q = u at *
  clear l0 l1 d0 d1 q0 q1 hq
  go_enter Try.func92, Try.ntmps92
  go_wp2_with (first | (go_at_call 85; refine (HA.out _).mono ?_; rintro e w' ⟨rfl, rfl⟩) | (go_at_call 133; refine HW.out.mono ?_; rintro e w' ⟨rfl, ⟨nq, rfl⟩⟩))
  go_ret
  exact ⟨rfl, ⟨_, rfl⟩⟩
theorem delay_bd (L d q : Int) (l0 : 0 ≤ L) (l1 : L ≤ 10000) (d0 : 20 ≤ d) (d1 : d ≤ 1000) (q0 : -100000 ≤ q) (q1 : q ≤ 100000) (hq : q ≠ 0) : 0 ≤ delayI L d q ∧ delayI L d q ≤ 79000000000000 := by
  have hw := water_bd L d l0 l1 d0 d1
  have ha := absI_bd q 100000 q0 q1
  have a1 : 1 ≤ absI q := by rw [absI_nat]; omega
  have hdv := div_bd (waterI L d + absI q - 1) (absI q) (by omega) a1
  unfold delayI
  omega
/-- the flow along a way -/
theorem l07Along_any (Q : Option Addr) (qc : Nat) (q : List Int) (st : Int) (w : World) (hQ : CellsAt w Q (intsV q)) (hq : allIn (-100000) 100000 q = true) (h0 : -20 ≤ st) (h1 : st ≤ 20) (hs : st ≠ 0) (hl : absI st ≤ q.length) (hm : q.length ≤ 1048576) :
    Calls Try.prog 91 #[.slice Q q.length qc, .int .i64 st] w fun e w' => e = .returned (.int .i64 (alongI q st)) ∧ w = w' := by
  have hbd := getD_bd hq (by omega) (by omega) (absI st - 1).toNat
  have ha : 1 ≤ absI st := by unfold absI; split <;> omega
  have hat : q.getD (absI st - 1).toNat 0 = q[(absI st - 1).toNat]'(by omega) := by rw [List.getD_eq_getElem?_getD, List.getElem?_eq_getElem (by omega)]; rfl
  obtain ⟨b, o, rfl, h1'⟩ := hQ (by rw [intsV_length]; omega)
  have hc := h1' (absI st - 1).toNat (by rw [intsV_length]; omega)
  rw [intsV_at _ _ (by omega), ← hat] at hc
  clear hat h1' hQ hq
  unfold alongI
  generalize hj : (absI st - 1).toNat = j at *
  have hjl : j < q.length := by omega
  by_cases hp : 0 < st
  · have hn : ¬ st < 0 := by omega
    have hk : st - 1 = (j : Int) := by unfold absI at *; split at hj <;> omega
    have hd : decide (0 < st) = true := decide_eq_true hp
    have e1 : IntKind.i64.wrap (st - 1) = (j : Int) := by rw [IntWalk.i64_in _ (by omega)]; exact hk
    rw [if_neg hn]
    clear hj hl ha hn
    generalize q.getD j 0 = fl at *
    have hst : st = (j : Int) + 1 := by omega
    subst hst
    go_enter Try.func91, Try.ntmps91
    go_wp2
    go_ret
    exact ⟨rfl, rfl⟩
  · have hn : st < 0 := by omega
    have hk : -st - 1 = (j : Int) := by unfold absI at *; split at hj <;> omega
    rw [if_pos hn]
    clear hj hl ha hn
    generalize q.getD j 0 = fl at *
    have hst : st = -(j : Int) - 1 := by omega
    subst hst
    have hd : ¬ (0 < -(j : Int) - 1) := by omega
    go_enter Try.func91, Try.ntmps91
    go_wp2
    go_ret
    exact ⟨rfl, rfl⟩
/-- the pipe of a way -/
theorem l07Pipe_any (bn : Nat) (A : Option Addr) (n c : Nat) (pb po d : Nat) (m : Nat) (st : Int) (w : World) (hN : NetAt w bn A n c (some ⟨pb, po, none⟩) m d) (h0 : -20 ≤ st) (h1 : st ≤ 20) (hs : st ≠ 0) (hl : absI st ≤ m) (hm : m ≤ 20) :
    Calls Try.prog 93 #[.pointer (some ⟨bn, 0, none⟩), .int .i64 st] w fun e w' => e = .returned (.pointer (some ⟨pb, po + ixE st * 6, none⟩)) ∧ Drawn w w' := by
  have ⟨n0, n1⟩ := hN
  have hk := ixE_cast hs
  have HA := Lib.hid (fun wx => l03Abs_any st wx (by omega) (by omega))
  have hj : ixE st < m := by omega
  have hab := absI_bd st 20 h0 h1
  have he : absI st = (ixE st : Int) + 1 := by omega
  rw [he] at HA
  clear hN hk hab he hl
  generalize ixE st = j at *
  go_enter Try.func93, Try.ntmps93
  go_wp2
  go_quiet ((go_at_call 85; exact quiet_same (HA.out _)))
  go_wp2
  go_ret
  exact ⟨rfl, ⟨_, rfl⟩⟩
/-- the node ahead of a way's last pipe -/
theorem l07Before_any (bn : Nat) (A : Option Addr) (n c : Nat) (pb po d : Nat) (m : Nat) (st : Int) (p : Pp) (w : World) (hN : NetAt w bn A n c (some ⟨pb, po, none⟩) m d) (hP : PipeO w pb (po + ixE st * 6) p) (h0 : -20 ≤ st) (h1 : st ≤ 20) (hs : st ≠ 0) (hl : absI st ≤ m) (hm : m ≤ 20) :
    Calls Try.prog 94 #[.pointer (some ⟨bn, 0, none⟩), .int .i64 st] w fun e w' => e = .returned (.int .i64 (if 0 < st then p.f else p.t)) ∧ w = w' := by
  have ⟨n0, n1⟩ := hN
  have ⟨p0, p1, p2, p3, p4, p5⟩ := hP
  have hk := ixE_cast hs
  have hj : ixE st < m := by omega
  clear hN hP p0 p3 p4 p5
  by_cases hp : 0 < st
  · rw [if_pos hp]
    have he : st = (ixE st : Int) + 1 := by unfold absI at hk; split at hk <;> omega
    clear hk hl
    generalize ixE st = j at *
    subst he
    go_enter Try.func94, Try.ntmps94
    go_wp2
    go_ret
    exact ⟨rfl, rfl⟩
  · rw [if_neg hp]
    have he : st = -(ixE st : Int) - 1 := by unfold absI at hk; split at hk <;> omega
    clear hk hl
    generalize ixE st = j at *
    subst he
    have p2' : w.cell? ⟨pb, po + ((-(-(j : Int) - 1)).toNat - 1) * 6 + 2, none⟩ = some (.int .i64 p.t) := by rw [show (-(-(j : Int) - 1)).toNat - 1 = j by omega]; exact p2
    have hd : ¬ (0 < -(j : Int) - 1) := by omega
    go_enter Try.func94, Try.ntmps94
    go_wp2
    go_ret
    exact ⟨rfl, rfl⟩
end Go.Proofs.Ytdfohpdhghdpkaa
