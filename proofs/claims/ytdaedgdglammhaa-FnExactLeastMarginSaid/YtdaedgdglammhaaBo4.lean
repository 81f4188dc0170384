/-
  LeastMargin of the model.
-/
import Derived.Test.YtdaedgdglammhaaBo3
namespace Go.Proofs.Ytdaedgdglammhaa
open Go.ChangeShapes Go.WideShapes Go.ChangeAt Go.RowKit Go.Shelf

set_option linter.unusedVariables false
set_option maxRecDepth 100000
set_option maxHeartbeats 4000000
theorem specLeastMargin_ds (A : Option Addr) (ca : Nat) (zs : List Int) (B : Option Addr) (cb : Nat) (ds : List Int) (w : World) (hA : CellsAt w A (intsV zs)) (hn : zs.length ≤ 1048576) (hB : CellsAt w B (intsV ds)) (hm : ds.length ≤ 1048576) :
    Calls Try.prog 35 #[.slice A zs.length ca, .slice B ds.length cb] w (fun e w' => e = .returned (.tuple #[.int .i64 (leastMarginR0 zs ds), .int .i64 (leastMarginR1 zs ds), .int .i64 (leastMarginR2 zs ds)]) ∧ Below w.heap.size w w') := by
  have HW := Lib.hid (l11Nodes_any A B ca cb zs ds w hA hB hn hm)
  have hb : Below w.heap.size w w := Below.refl _ _
  change Hid (Calls _ _ _ _ fun e w' => e = .returned (.int .i64 (ndC zs ds)) ∧ _) at HW
  by_cases hc : ndC zs ds = 0
  rotate_left
  · rw [(lm_bad hc).1, (lm_bad hc).2.1, (lm_bad hc).2.2]
    generalize ndC zs ds = k at *
    clear hA hB
    go_enter Try.func35, Try.ntmps35
    go_wp2_with ((go_at_call 85; refine HW.out.mono ?_; rintro e w' ⟨rfl, hb'⟩; have hb := bnext hb hb'))
    go_ret3
    exact ⟨rfl, hb⟩
  have HW := Lib.hid (by have h := HW.out; rw [hc] at h; exact h)
  obtain ⟨hz, hd, hl, h16⟩ := ndC_ok hc
  by_cases h0 : 0 < zs.length
  rotate_left
  · rw [(lm_none hc h0).1, (lm_none hc h0).2.1, (lm_none hc h0).2.2]
    have f0 : ((zs.length : Int) == 0) = true := beq_iff_eq.2 (by omega)
    clear hA hB hl hc
    go_enter Try.func35, Try.ntmps35
    go_wp2_with ((go_at_call 85; refine HW.out.mono ?_; rintro e w' ⟨rfl, hb'⟩; have hb := bnext hb hb'))
    go_ret3
    exact ⟨rfl, hb⟩
  rw [(lm_ok hc h0).1, (lm_ok hc h0).2.1, (lm_ok hc h0).2.2, ← argTo_min]
  have f0 : ((zs.length : Int) == 0) = false := beq_eq_false_iff_ne.2 (by omega)
  have HA := Lib.hid hA
  have HB := Lib.hid hB
  have HZ := Lib.hid hz
  have HD := Lib.hid hd
  have HLEN := Lib.hid hl
  generalize hR0 : argTo (surF zs ds) (zs.length - 1) = R
  generalize hV0 : surF zs ds R = V
  have HR := Lib.hid hR0
  have HV := Lib.hid hV0
  clear hR0 hV0
  have hlc : (ds.length : Int) = (zs.length : Int) := by omega
  clear hA hB hl hc hz hd
  go_enter Try.func35, Try.ntmps35
  go_wp2_with ((go_at_call 85; refine HW.out.mono ?_; rintro e w' ⟨rfl, hb'⟩; have hb := bnext hb hb'))
  go_loopw [8, 9] (fun v i wr => ∃ (k b : Nat), 1 ≤ k ∧ k ≤ zs.length ∧ b < k ∧ i = .int .i64 k ∧ v = .int .i64 b ∧ Below w.heap.size w wr ∧ Hid (b = argTo (surF zs ds) (k - 1))) (fun _ i _ => zs.length - (intOf i).toNat)
  case atStart => exact ⟨1, 0, Nat.le_refl _, by omega, by omega, rfl, rfl, by assumption, Lib.hid rfl⟩
  case round =>
    obtain ⟨k, b, k0, hk, hbk, rfl, rfl, hb, I⟩ := hrel
    have hbn : b < zs.length := by omega
    have hb1 : (b : Int) < ((zs.length : Nat) : Int) := by omega
    have hb2 : (b : Int) < ((ds.length : Nat) : Int) := by omega
    obtain ⟨bp, op, rfl, q2⟩ := intsCell (HA.out.next hb) hbn
    obtain ⟨bd, od, rfl, q3⟩ := intsCell (HB.out.next hb) (show b < ds.length by rw [← HLEN.out]; exact hbn)
    have d3 := allIn_one' HD.out (show b < ds.length by rw [← HLEN.out]; exact hbn)
    have z3 := allIn_one' HZ.out hbn
    have HS3 := Lib.hid (fun W => l11Steam_any (ds.getD b 0) W d3.2)
    have s3 := stm_bd (ds.getD b 0)
    by_cases hlt : k < zs.length
    · obtain ⟨bp', op', e', q0⟩ := intsCell (HA.out.next hb) hlt
      have e3 : bp = bp' ∧ op = op' := by simp at e'; exact e'
      obtain ⟨e4, e5⟩ := e3
      subst e4
      subst e5
      obtain ⟨bd', od', e2, q1⟩ := intsCell (HB.out.next hb) (show k < ds.length by rw [← HLEN.out]; exact hlt)
      have e3 : bd = bd' ∧ od = od' := by simp at e2; exact e2
      obtain ⟨e4, e5⟩ := e3
      subst e4
      subst e5
      have hk1 : (k : Int) < ((zs.length : Nat) : Int) := by omega
      have hk2 : (k : Int) < ((ds.length : Nat) : Int) := by omega
      have d1 := allIn_one' HD.out (show k < ds.length by rw [← HLEN.out]; exact hlt)
      have z1 := allIn_one' HZ.out hlt
      have HS1 := Lib.hid (fun W => l11Steam_any (ds.getD k 0) W d1.2)
      have s1 := stm_bd (ds.getD k 0)
      have hyes : surF zs ds k < surF zs ds b → Hid (k = argTo (surF zs ds) (k + 1 - 1)) := fun h => Lib.hid (by
        obtain ⟨j, rfl⟩ : ∃ j, k = j + 1 := ⟨k - 1, by omega⟩
        show j + 1 = argTo (surF zs ds) (j + 1)
        unfold argTo
        have := I.out
        rw [show j + 1 - 1 = j from rfl] at this
        rw [← this, if_pos h])
      have hno : ¬ surF zs ds k < surF zs ds b → Hid (b = argTo (surF zs ds) (k + 1 - 1)) := fun h => Lib.hid (by
        obtain ⟨j, rfl⟩ : ∃ j, k = j + 1 := ⟨k - 1, by omega⟩
        show b = argTo (surF zs ds) (j + 1)
        unfold argTo
        have := I.out
        rw [show j + 1 - 1 = j from rfl] at this
        rw [← this, if_neg h])
      have ek : surF zs ds k = zs.getD k 0 - stmI (ds.getD k 0) := rfl
      have eb : surF zs ds b = zs.getD b 0 - stmI (ds.getD b 0) := rfl
      rw [ek, eb] at hyes hno
      clear ek eb I e' e2
      generalize stmI (ds.getD k 0) = t1 at *
      generalize stmI (ds.getD b 0) = t3 at *
      generalize zs.getD k 0 = y1 at *
      generalize zs.getD b 0 = y3 at *
      generalize ds.getD k 0 = x1 at *
      generalize ds.getD b 0 = x3 at *
      have w1 : IntKind.i64.wrap (y1 - t1) = y1 - t1 := IntWalk.i64_in _ (by omega)
      have w3 : IntKind.i64.wrap (y3 - t3) = y3 - t3 := IntWalk.i64_in _ (by omega)
      by_cases hlow : y1 - t1 < y3 - t3
      · have IN := hyes hlow
        have f1 : decide (y1 - t1 < y3 - t3) = true := decide_eq_true hlow
        clear hyes hno hlow
        go_wp2_with fail
        go_region_held3 (fun w' => w'.cell? ⟨bp, op + k, none⟩ = some (.int .i64 y1) ∧ w'.cell? ⟨bd, od + k, none⟩ = some (.int .i64 x1) ∧ w'.cell? ⟨bp, op + b, none⟩ = some (.int .i64 y3) ∧ w'.cell? ⟨bd, od + b, none⟩ = some (.int .i64 x3) ∧ Below w.heap.size w w') (first | assumption | exact ⟨q0, q1, q2, q3, below_drewN hb 1⟩ | (go_split_ands; exact ⟨(hb'.cell (World.block_lt_of_cell? _ _ (by assumption))).trans (by assumption), (hb'.cell (World.block_lt_of_cell? _ _ (by assumption))).trans (by assumption), (hb'.cell (World.block_lt_of_cell? _ _ (by assumption))).trans (by assumption), (hb'.cell (World.block_lt_of_cell? _ _ (by assumption))).trans (by assumption), bnext (by assumption) hb'⟩)) (first | (go_at_call 79; (with_reducible refine (HS1.out _).mono ?_); rintro e w' ⟨rfl, hb'⟩) | (go_at_call 79; (with_reducible refine (HS3.out _).mono ?_); rintro e w' ⟨rfl, hb'⟩))
        all_goals go_wp2
        all_goals go_roundw
        case rel => exact ⟨k + 1, k, by omega, by omega, by omega, by go_num, rfl, by go_split_ands; assumption, IN⟩
        case measure => simp [intOf]; omega
      · have IN := hno hlow
        have f1 : decide (y1 - t1 < y3 - t3) = false := decide_eq_false hlow
        clear hyes hno hlow
        go_wp2_with fail
        go_region_held3 (fun w' => w'.cell? ⟨bp, op + k, none⟩ = some (.int .i64 y1) ∧ w'.cell? ⟨bd, od + k, none⟩ = some (.int .i64 x1) ∧ w'.cell? ⟨bp, op + b, none⟩ = some (.int .i64 y3) ∧ w'.cell? ⟨bd, od + b, none⟩ = some (.int .i64 x3) ∧ Below w.heap.size w w') (first | assumption | exact ⟨q0, q1, q2, q3, below_drewN hb 1⟩ | (go_split_ands; exact ⟨(hb'.cell (World.block_lt_of_cell? _ _ (by assumption))).trans (by assumption), (hb'.cell (World.block_lt_of_cell? _ _ (by assumption))).trans (by assumption), (hb'.cell (World.block_lt_of_cell? _ _ (by assumption))).trans (by assumption), (hb'.cell (World.block_lt_of_cell? _ _ (by assumption))).trans (by assumption), bnext (by assumption) hb'⟩)) (first | (go_at_call 79; (with_reducible refine (HS1.out _).mono ?_); rintro e w' ⟨rfl, hb'⟩) | (go_at_call 79; (with_reducible refine (HS3.out _).mono ?_); rintro e w' ⟨rfl, hb'⟩))
        all_goals go_wp2
        all_goals go_roundw
        case rel => exact ⟨k + 1, b, by omega, by omega, by omega, by go_num, rfl, by go_split_ands; assumption, IN⟩
        case measure => simp [intOf]; omega
    · have he : k = zs.length := by omega
      subst he
      obtain rfl : b = R := I.out.trans HR.out
      have hV : zs.getD b 0 - stmI (ds.getD b 0) = V := HV.out
      clear I
      generalize stmI (ds.getD b 0) = t3 at *
      generalize zs.getD b 0 = y3 at *
      generalize ds.getD b 0 = x3 at *
      have w3 : IntKind.i64.wrap (y3 - t3) = V := (IntWalk.i64_in _ (by omega)).trans hV
      have HW3 := Lib.hid hV
      clear hV
      go_wp2_with fail
      go_region_held3 (fun w' => w'.cell? ⟨bp, op + b, none⟩ = some (.int .i64 y3) ∧ w'.cell? ⟨bd, od + b, none⟩ = some (.int .i64 x3) ∧ Below w.heap.size w w') (first | assumption | exact ⟨q2, q3, below_drewN hb 1⟩ | (go_split_ands; exact ⟨(hb'.cell (World.block_lt_of_cell? _ _ (by assumption))).trans (by assumption), (hb'.cell (World.block_lt_of_cell? _ _ (by assumption))).trans (by assumption), bnext (by assumption) hb'⟩)) (first | (go_at_call 79; (with_reducible refine (HS3.out _).mono ?_); rintro e w' ⟨rfl, hb'⟩))
      all_goals go_wp2
      all_goals go_ret3
      all_goals go_split_ands
      all_goals exact ⟨rfl, by assumption⟩
end Go.Proofs.Ytdaedgdglammhaa
