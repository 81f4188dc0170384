/-
  errors.Is at an error of errors.New's make; EstimateAt, UsedBetween.
-/
import Derived.Test.YthidaoemonjemabDoorMa8
import Derived.WalkKit
import Derived.LaidEql
import Derived.Stop.Asserts
import Derived.RowKitTokens
namespace Go.Proofs.YthidaoemonjemabDoor
open Go.ChangeShapes Go.WideShapes Go.ChangeAt Go.RowKit Go.Extern.Stop Go.Stop Go.Extern

set_option maxRecDepth 100000
set_option maxHeartbeats 1600000
set_option linter.unusedVariables false

theorem isTypeOf (v : Value) (w : World) : (Extern.ReflectliteType.typeOf #[.iface 177 v]).run Tryd.prog w = .ok (.iface 133 (.agg #[.pointer (some ⟨9, 177, none⟩)])) w := by kernel_rfl
/-- what the library's Comparable does -/
def compX : Array Value → Sem Value := Extern.ReflectliteType.method fun t => do Go.Extern.Rtype.noPackHeld "Comparable" t; pure (.bool (← typeInfo t).comparable)
theorem isComparable (w : World) : (compX #[.agg #[.pointer (some ⟨9, 177, none⟩)]]).run Tryd.prog w = .ok (.bool true) w := by kernel_rfl
theorem isMethodComparable (v : Value) (w : World) : (Go.method 312 133 v "Comparable").run Tryd.prog w = .ok (161, v) w := by kernel_rfl
theorem isComp : (Tryd.prog.info? 177).map (·.comparable) = some true := by kernel_rfl
theorem isSize : (Tryd.prog.info? 179).map (·.size) = some 1 := by kernel_rfl
/-- errors.Is(x, x), x a pointer to an errors.errorString. -/
theorem is_same (a : Addr) (w : World) :
    Calls Tryd.prog 74 #[.iface 177 (.pointer (some a)), .iface 177 (.pointer (some a))] w fun e w' => e = .returned (.bool true) ∧ w' = w := by
  obtain ⟨i, hi, hcmp⟩ := Option.map_eq_some_iff.1 isComp
  obtain ⟨j, hj, hjs⟩ := Option.map_eq_some_iff.1 isSize
  have h8 := @run_callFunc_extern Tryd.prog 96 _ Extern.ReflectliteType.typeOf Tryd.func96 (by kernel_rfl) (by kernel_rfl) (by kernel_rfl) (by kernel_rfl)
  have h32 := @run_callFunc_extern Tryd.prog 161 _ compX Tryd.func161 (by kernel_rfl) (by kernel_rfl) (by kernel_rfl) (by kernel_rfl)
  have tT := isTypeOf
  have cT := isComparable
  have mR := isMethodComparable
  have heq := run_eql_iface_ptr_same (P := Tryd.prog) w a Tryd.underlying71 Tryd.underlying177 hi hcmp hj
  go_enter Tryd.func74, Tryd.ntmps74
  go_wp2
  refine wp_loop_rounds 1 ?_
  rw [rounds_succ]
  go_wp2
  go_ret
  exact ⟨rfl, rfl⟩
/-- errors.Is(nil, x). -/
theorem is_nil (b : Addr) (w : World) :
    Calls Tryd.prog 74 #[.nilIface, .iface 177 (.pointer (some b))] w fun e w' => e = .returned (.bool false) ∧ w' = w := by
  have hn := run_eql_iface_nil_left (P := Tryd.prog) w 177 (.pointer (some b)) Tryd.underlying71
  go_enter Tryd.func74, Tryd.ntmps74
  go_wp2
  go_ret
  exact ⟨rfl, rfl⟩
theorem OutIs.wf : True := trivial
theorem estimateCode_nil (a : Addr) (w : World) (ha : OutIs w a) : Calls Tryd.prog 43 #[.nilIface] w fun e w' => e = .returned (.int .i64 0) ∧ w' = w := by
  have HI := Lib.hid (is_nil a w)
  have a0 : w.cell? ⟨0, 0, none⟩ = some (.iface 177 (.pointer (some a))) := ha
  go_enter Tryd.func43, Tryd.ntmps43
  go_wp2_with (go_at_call 74; refine HI.out.mono ?_; rintro e w' ⟨rfl, rfl⟩)
  go_ret
  exact ⟨rfl, rfl⟩
theorem estimateCode_out (a : Addr) (w : World) (ha : OutIs w a) : Calls Tryd.prog 43 #[.iface 177 (.pointer (some a))] w fun e w' => e = .returned (.int .i64 3) ∧ w' = w := by
  have HI := Lib.hid (is_same a w)
  have a0 : w.cell? ⟨0, 0, none⟩ = some (.iface 177 (.pointer (some a))) := ha
  go_enter Tryd.func43, Tryd.ntmps43
  go_wp2_with (go_at_call 74; refine HI.out.mono ?_; rintro e w' ⟨rfl, rfl⟩)
  go_ret
  exact ⟨rfl, rfl⟩
theorem estimates_any (A : Option Addr) (n c : Nat) (w : World) :
    Calls Tryd.prog 42 #[.slice A n c] w fun e w' => e = .returned (.func (.func 71) #[] #[.pointer (some ⟨w.heap.size, 0, none⟩)]) ∧ One w' w.heap.size (.slice A n c) ∧ Below w.heap.size w w' := by
  have H := Lib.hid (One.new w (.slice A n c) 99)
  have HB : Hid (Below w.heap.size w (w.alloc (.cells #[.slice A n c] 99))) := Lib.hid (bal (Below.refl _ _) _)
  go_enter Tryd.func42, Tryd.ntmps42
  go_wp2
  go_ret
  exact ⟨rfl, H.out, HB.out⟩
def estimateAtR0 (xs : List Rg) (hour : Int) : Int := if okRs xs = true then (if atB xs hour = true then atV xs hour else 0) else 0
def estimateAtR1 (xs : List Rg) (hour : Int) : Int := if okRs xs = true then (if atB xs hour = true then 0 else 3) else 1
theorem atV_none (xs : List Rg) (hour : Int) (h : atB xs hour = false) : atV xs hour = 0 := by
  unfold atB at h
  unfold atV
  split
  · rename_i h1
    rw [decide_eq_true h1, Bool.true_and, Bool.or_eq_false_iff] at h
    have h2 := of_decide_eq_false h.1
    have h3 := of_decide_eq_false h.2
    rw [if_neg h2, if_pos (by omega)]
  · rfl
theorem specEstimateAt_ds (A : Option Addr) (n c : Nat) (xs : List Rg) (hour : Int) (w : World) (h : RgsOk w A n xs) :
    Calls Tryd.prog 21 #[.slice A n c, .int .i64 hour] w fun e w' => e = .returned (.tuple #[.int .i64 (estimateAtR0 xs hour), .int .i64 (estimateAtR1 xs hour)]) ∧ Below w.heap.size w w' := by
  have HO := Lib.hid (l06Ok_any A n c xs w h)
  have HL := Lib.hid (fun (k : Nat) (ho : okRs xs = true) => l06At_any A n c xs hour (w.drewN k) (h.go (below_drewN (Below.refl _ _) k)) ho)
  clear h
  have H0 : Hid (estimateAtR0 xs hour = _) := Lib.hid (by unfold estimateAtR0; rfl)
  have H1 : Hid (estimateAtR1 xs hour = _) := Lib.hid (by unfold estimateAtR1; rfl)
  by_cases ho : okRs xs = true
  rotate_left
  · have ho : okRs xs = false := by simpa only [Bool.not_eq_true] using ho
    rw [ho, if_neg (by simp)] at H0 H1
    rw [ho] at HO
    go_enter Tryd.func21, Tryd.ntmps21
    go_wp2_with fail
    refine HO.out.mono ?_
    rintro e w1 ⟨rfl, ⟨k, rfl⟩⟩
    go_wp2
    go_ret2
    exact ⟨by rw [H0.out, H1.out]; rfl, below_drewN (Below.refl _ _) k⟩
  have HL2 := Lib.hid (fun k => HL.out k ho)
  rw [ho, if_pos rfl] at H0 H1
  rw [ho] at HO
  clear HL ho
  by_cases hb : atB xs hour = true
  · rw [hb, if_pos rfl] at H0 H1
    rw [hb] at HL2
    generalize atV xs hour = v at *
    go_enter Tryd.func21, Tryd.ntmps21
    go_wp2_with (first | (go_at_call 37; refine HO.out.mono ?_; rintro e w1 ⟨rfl, ⟨k, rfl⟩⟩) | (go_at_call 38; refine (HL2.out _).mono ?_; rintro e w2 ⟨rfl, hb2⟩))
    go_ret2
    exact ⟨by rw [H0.out, H1.out]; rfl, bnext (below_drewN (Below.refl _ _) k) hb2⟩
  · have hb : atB xs hour = false := by simpa only [Bool.not_eq_true] using hb
    rw [hb, if_neg (by simp)] at H0 H1
    rw [hb] at HL2
    generalize atV xs hour = v at *
    go_enter Tryd.func21, Tryd.ntmps21
    go_wp2_with (first | (go_at_call 37; refine HO.out.mono ?_; rintro e w1 ⟨rfl, ⟨k, rfl⟩⟩) | (go_at_call 38; refine (HL2.out _).mono ?_; rintro e w2 ⟨rfl, hb2⟩))
    go_ret2
    exact ⟨by rw [H0.out, H1.out]; rfl, bnext (below_drewN (Below.refl _ _) k) hb2⟩
theorem implEstimateAt_ds (A : Option Addr) (n c : Nat) (xs : List Rg) (hour : Int) (a : Addr) (w : World) (h : RgsOk w A n xs) (ha : OutIs w a) :
    Calls Tryd.prog 22 #[.slice A n c, .int .i64 hour] w fun e w' => e = .returned (.tuple #[.int .i64 (estimateAtR0 xs hour), .int .i64 (estimateAtR1 xs hour)]) ∧ Below w.heap.size w w' := by
  have HO := Lib.hid (implVR_any A n c xs w h)
  have HX := Lib.hid h
  have HA := Lib.hid ha
  have H0 : Hid (estimateAtR0 xs hour = _) := Lib.hid (by unfold estimateAtR0; rfl)
  have H1 : Hid (estimateAtR1 xs hour = _) := Lib.hid (by unfold estimateAtR1; rfl)
  have HN := Lib.hid (atV_none xs hour)
  clear h ha
  by_cases ho : okRs xs = true
  rotate_left
  · have ho : okRs xs = false := by simpa only [Bool.not_eq_true] using ho
    rw [ho, if_neg (by simp)] at H0 H1
    rw [ho] at HO
    go_enter Tryd.func22, Tryd.ntmps22
    go_wp2_with fail
    refine HO.out.mono ?_
    rintro e w1 ⟨rfl, hb⟩
    go_wp2
    go_ret2
    exact ⟨by rw [H0.out, H1.out]; rfl, hb⟩
  have HE := Lib.hid (fun (vb : Nat) (wx : World) (hb : Below w.heap.size w wx) (hv : One wx vb (.slice A n c)) => estimates1_any A n c xs hour vb a wx (HX.out.go hb) ho hv (HA.out.next hb))
  rw [ho, if_pos rfl] at H0 H1
  rw [ho] at HO
  clear ho
  have eg : ∀ args w, (callFunc 71 args).run Tryd.prog w = .ok (.enter 71 args) w := enters_of Tryd.func71 (by kernel_rfl) rfl
  unfold RetE at HE
  by_cases hb : atB xs hour = true
  · rw [hb, if_pos rfl] at H0 H1
    simp only [hb, if_true] at HE
    generalize atV xs hour = v at *
    go_enter Tryd.func22, Tryd.ntmps22
    go_wp2_with (first | (go_at_call 41; refine HO.out.mono ?_; rintro e w1 ⟨rfl, hb1⟩; have HB1 := Lib.hid hb1; clear hb1) | (go_at_call 42; refine (estimates_any A n c _).mono ?_; rintro e w2 ⟨rfl, hone, hb2⟩; have HB2 := Lib.hid (bnext HB1.out hb2); have HON := Lib.hid hone; clear hone hb2) | (go_at_fn 71; refine (HE.out _ _ HB2.out HON.out).mono ?_; rintro e w3 ⟨rfl, hb3⟩; have HB3 := Lib.hid (bnext HB2.out hb3); clear hb3) | (go_at_call 43; refine (estimateCode_nil a _ (HA.out.next HB3.out)).mono ?_; rintro e w4 ⟨rfl, rfl⟩))
    go_ret2
    exact ⟨by rw [H0.out, H1.out]; rfl, HB3.out⟩
  · have hb : atB xs hour = false := by simpa only [Bool.not_eq_true] using hb
    have hv0 := HN.out hb
    rw [hb, if_neg (by simp)] at H0 H1
    simp only [hb, hv0, if_false, Bool.false_eq_true] at HE
    clear hv0
    go_enter Tryd.func22, Tryd.ntmps22
    go_wp2_with (first | (go_at_call 41; refine HO.out.mono ?_; rintro e w1 ⟨rfl, hb1⟩; have HB1 := Lib.hid hb1; clear hb1) | (go_at_call 42; refine (estimates_any A n c _).mono ?_; rintro e w2 ⟨rfl, hone, hb2⟩; have HB2 := Lib.hid (bnext HB1.out hb2); have HON := Lib.hid hone; clear hone hb2) | (go_at_fn 71; refine (HE.out _ _ HB2.out HON.out).mono ?_; rintro e w3 ⟨rfl, hb3⟩; have HB3 := Lib.hid (bnext HB2.out hb3); clear hb3) | (go_at_call 43; refine (estimateCode_out a _ (HA.out.next HB3.out)).mono ?_; rintro e w4 ⟨rfl, rfl⟩))
    go_ret2
    exact ⟨by rw [H0.out, H1.out]; rfl, HB3.out⟩

end Go.Proofs.YthidaoemonjemabDoor
