/-
  Marks written into lists of Step, and found again.
-/
import Derived.Test.YtkbkmpcdidhagacDoorSp2
import Derived.Test.YtkbkmpcdidhagacDoorM1
namespace Go.Proofs.YtkbkmpcdidhagacDoor
open Go.ChangeShapes Go.WideShapes Go.ChangeAt Go.RowKit
set_option linter.unusedVariables false
set_option linter.unusedSimpArgs false
set_option maxRecDepth 100000
set_option linter.unusedVariables false

/-- one of 2 marks from K on -/
def markSp (K : Int) : Sp := ⟨K, K + 1⟩
/-- so many of them -/
def marksSp (k : Int) (n : Nat) : List Sp := (List.range n).map fun (i : Nat) => markSp (k + 2 * (i : Int))
theorem marksSp_length (k : Int) (n : Nat) : (marksSp k n).length = n := by simp [marksSp]
theorem marksSp_at (k : Int) (n i : Nat) (h : i < n) : (marksSp k n)[i]? = some (markSp (k + 2 * (i : Int))) := by simp [marksSp, h]
theorem marksSp_take (k : Int) (n i : Nat) (h : i < n) : (marksSp k n).take (i + 1) = (marksSp k n).take i ++ [markSp (k + 2 * (i : Int))] := by
  rw [List.take_add_one, marksSp_at k n i h]; rfl

theorem markSps_any (A : Option Addr) (c n : Nat) (base : Nat) (xs : List Value) (k : Int) (w : World) (hk0 : 0 ≤ k) (hk1 : k + 2 * n ≤ 9223372036854775000)
    (hown : w.ownsRow base 35 2 (.slice A n c) n xs) :
    Calls Tryd.prog 12 #[.slice A n c, .int .i64 k] w
      fun e w' => e = .returned (.int .i64 (k + 2 * n)) ∧ w'.ownsRow base 35 2 (.slice A n c) n (rowsF Sp.cs (marksSp k n)) ∧ w.grownBy w' (Value.ownBlock (.slice A n c)) := by
  have hlen := hown.1
  have Hlen : Hid (xs.length = n * 2) := Lib.hid hlen
  clear hlen
  by_cases h0 : 0 < n
  · obtain ⟨g, rfl⟩ : ∃ g, A = some ⟨g, 0, none⟩ := by
      rcases hown.2 with ⟨hv, hn⟩ | ⟨g, cap, cur, hv, _⟩
      · omega
      · injection hv with hA; exact ⟨g, hA⟩
    have hgl : g < w.heap.size := (hown.lt g rfl).2
    go_enter Tryd.func12, Tryd.ntmps12
    go_wp2
    go_loopw [1, 5] (fun m i wr => ∃ j : Nat, j ≤ n ∧ i = .int .i64 j ∧ m = .int .i64 (k + 2 * j) ∧ wr.ownsRow base 35 2 (.slice (some ⟨g, 0, none⟩) n c) n (fillF Sp.cs 2 ((marksSp k n).take j) xs) ∧ w.grownBy wr (some g)) (fun _ i _ => n - (intOf i).toNat)
    case atStart => exact ⟨0, by omega, rfl, by simp, by rw [List.take_zero, fillF_nil]; exact hown, grown_refl _ _⟩
    case round =>
      obtain ⟨j, hj, rfl, rfl, hro, hgr⟩ := hrel
      by_cases hlt : j < n
      · have hK0 : 0 ≤ k + 2 * (j : Int) := by omega
        have hK1 : k + 2 * (j : Int) + 2 ≤ 9223372036854775000 := by omega
        have hKs : k + 2 * (j : Int) + 1 + 1 = k + 2 * ((j + 1 : Nat) : Int) := by omega
        have HKs := Lib.hid hKs
        have hT := Lib.hid (marksSp_take k n j hlt)
        have hkl : ((marksSp k n).take j).length = j := by rw [List.length_take, marksSp_length]; omega
        generalize k + 2 * (j : Int) = K at *
        clear hKs
        have hgr1 := hgr
        have hro1 := hro
        clear hro hgr
        have hbig : ((marksSp k n).take j).length * 2 + 2 ≤ xs.length := by rw [Hlen.out, hkl]; omega
        obtain ⟨u0, hu0⟩ := fillF_at Sp.csL ((marksSp k n).take j) xs hbig 0 (by omega)
        obtain ⟨u1, hu1⟩ := fillF_at Sp.csL ((marksSp k n).take j) xs hbig 1 (by omega)
        rw [hkl] at hu0 hu1
        have c0 := (hro1.cellAt (j * 2) (by omega)).trans hu0
        have c1 := (hro1.cellAt (j * 2 + 1) (by omega)).trans hu1
        have f0 := hro1.frozenAt (j * 2)
        have f1 := hro1.frozenAt (j * 2 + 1)
        have hst := ((hro1.stored (j * 2) (.int .i64 (K))).1.stored (j * 2 + 1) (.int .i64 (K + 1))).1
        have hfs := fillF_set Sp.csL ((marksSp k n).take j) xs (markSp K) hbig
        rw [hkl] at hfs
        rw [show (((fillF Sp.cs 2 ((marksSp k n).take j) xs).set (j * 2) (.int .i64 (K))).set (j * 2 + 1) (.int .i64 (K + 1))) = _ from hfs, ← hT.out] at hst
        have Hst := Lib.hid hst
        clear hst hfs hkl hbig hro1 hu0 hu1
        go_wp2
        go_roundw
        case rel => exact ⟨j + 1, by omega, by go_num, by rw [← HKs.out], Hst.out, grown_set (grown_set (hgr1) _ _ _) _ _ _⟩
        case measure => simp [intOf]; omega
      · have e : j = n := by omega
        subst e
        rw [List.take_of_length_le (by rw [marksSp_length]; omega), fillF_all Sp.csL _ xs (by rw [marksSp_length]; exact Hlen.out)] at hro
        go_wp2
        go_ret
        exact ⟨rfl, hro, hgr⟩
  · have e : n = 0 := by omega
    subst e
    have hx : xs = [] := List.length_eq_zero_iff.1 (by have := Hlen.out; omega)
    subst hx
    go_enter Tryd.func12, Tryd.ntmps12
    go_wp2
    go_loopw [1, 5] (fun m i wr => m = .int .i64 k ∧ i = .int .i64 0 ∧ w = wr) (fun _ _ _ => 0)
    case atStart => exact ⟨rfl, rfl, rfl⟩
    case round =>
      obtain ⟨rfl, rfl, rfl⟩ := hrel
      go_wp2
      go_ret
      exact ⟨by simp, hown, grown_refl _ _⟩

theorem heldSps_any (A : Option Addr) (c n : Nat) (k : Int) (w : World) (hk0 : 0 ≤ k) (hk1 : k + 2 * n ≤ 9223372036854775000) (hA : CellsAt w A (rowsF Sp.cs (marksSp k n))) :
    Calls Tryd.prog 13 #[.slice A n c, .int .i64 k] w fun e w' => e = .returned (.int .i64 (k + 2 * n)) ∧ Below w.heap.size w w' := by
  have HA := Lib.hid hA
  clear hA
  go_enter Tryd.func13, Tryd.ntmps13
  go_wp2
  go_loopw [1, 5] (fun m i wr => ∃ j : Nat, j ≤ n ∧ i = .int .i64 j ∧ m = .int .i64 (k + 2 * j) ∧ Below w.heap.size w wr) (fun _ i _ => n - (intOf i).toNat)
  case atStart => exact ⟨0, by omega, rfl, by simp, Below.refl _ _⟩
  case round =>
    obtain ⟨j, hj, rfl, rfl, hb⟩ := hrel
    by_cases hlt : j < n
    · obtain ⟨b, off, rfl, hrow⟩ := SpO.at (HA.out.next hb) (by rw [marksSp_length]; omega)
      have P0 := hrow j _ (marksSp_at k n j hlt)
      have hK0 : 0 ≤ k + 2 * (j : Int) := by omega
      have hK1 : k + 2 * (j : Int) + 2 ≤ 9223372036854775000 := by omega
      have hKs : k + 2 * (j : Int) + 1 + 1 = k + 2 * ((j + 1 : Nat) : Int) := by omega
      have HKs := Lib.hid hKs
      clear hrow hKs
      generalize k + 2 * (j : Int) = K at *
      have ⟨p0, p1⟩ := P0
      simp only [markSp] at p0 p1
      have hb2 := hb
      clear P0 hb
      go_wp2
      go_roundw
      case rel => exact ⟨j + 1, by omega, by go_num, by rw [← HKs.out], hb2⟩
      case measure => simp [intOf]; omega
    · have e : j = n := by omega
      subst e
      go_wp2
      go_ret
      exact ⟨rfl, hb⟩
end Go.Proofs.YtkbkmpcdidhagacDoor
