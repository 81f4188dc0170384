/-
  Marks written into lists of Substation, and found again.
-/
import Derived.Test.YtdaedgdglammhabSb2
import Derived.Test.YtdaedgdglammhabM1
namespace Go.Proofs.Ytdaedgdglammhab
open Go.ChangeShapes Go.WideShapes Go.ChangeAt Go.RowKit
set_option linter.unusedVariables false
set_option linter.unusedSimpArgs false
set_option maxRecDepth 100000
set_option linter.unusedVariables false

/-- one of 5 marks from K on -/
def markSb (K : Int) : Sb := ⟨mText K, K + 1, K + 1 + 1, K + 1 + 1 + 1, K + 1 + 1 + 1 + 1⟩
/-- so many of them -/
def marksSb (k : Int) (n : Nat) : List Sb := (List.range n).map fun (i : Nat) => markSb (k + 5 * (i : Int))
theorem marksSb_length (k : Int) (n : Nat) : (marksSb k n).length = n := by simp [marksSb]
theorem marksSb_at (k : Int) (n i : Nat) (h : i < n) : (marksSb k n)[i]? = some (markSb (k + 5 * (i : Int))) := by simp [marksSb, h]
theorem marksSb_take (k : Int) (n i : Nat) (h : i < n) : (marksSb k n).take (i + 1) = (marksSb k n).take i ++ [markSb (k + 5 * (i : Int))] := by
  rw [List.take_add_one, marksSb_at k n i h]; rfl

theorem markSbs_any (A : Option Addr) (c n : Nat) (base : Nat) (xs : List Value) (k : Int) (w : World) (hk0 : 0 ≤ k) (hk1 : k + 5 * n ≤ 9223372036854775000)
    (hown : w.ownsRow base 34 5 (.slice A n c) n xs) :
    Calls Try.prog 37 #[.slice A n c, .int .i64 k] w
      fun e w' => e = .returned (.int .i64 (k + 5 * n)) ∧ w'.ownsRow base 34 5 (.slice A n c) n (rowsF Sb.cs (marksSb k n)) ∧ w.grownBy w' (Value.ownBlock (.slice A n c)) := by
  have hlen := hown.1
  have Hlen : Hid (xs.length = n * 5) := Lib.hid hlen
  clear hlen
  by_cases h0 : 0 < n
  · obtain ⟨g, rfl⟩ : ∃ g, A = some ⟨g, 0, none⟩ := by
      rcases hown.2 with ⟨hv, hn⟩ | ⟨g, cap, cur, hv, _⟩
      · omega
      · injection hv with hA; exact ⟨g, hA⟩
    have hgl : g < w.heap.size := (hown.lt g rfl).2
    go_enter Try.func37, Try.ntmps37
    go_wp2
    go_loopw [1, 5] (fun m i wr => ∃ j : Nat, j ≤ n ∧ i = .int .i64 j ∧ m = .int .i64 (k + 5 * j) ∧ wr.ownsRow base 34 5 (.slice (some ⟨g, 0, none⟩) n c) n (fillF Sb.cs 5 ((marksSb k n).take j) xs) ∧ w.grownBy wr (some g)) (fun _ i _ => n - (intOf i).toNat)
    case atStart => exact ⟨0, by omega, rfl, by simp, by rw [List.take_zero, fillF_nil]; exact hown, grown_refl _ _⟩
    case round =>
      obtain ⟨j, hj, rfl, rfl, hro, hgr⟩ := hrel
      by_cases hlt : j < n
      · have hK0 : 0 ≤ k + 5 * (j : Int) := by omega
        have hK1 : k + 5 * (j : Int) + 5 ≤ 9223372036854775000 := by omega
        have hKs : k + 5 * (j : Int) + 1 + 1 + 1 + 1 + 1 = k + 5 * ((j + 1 : Nat) : Int) := by omega
        have HKs := Lib.hid hKs
        have hT := Lib.hid (marksSb_take k n j hlt)
        have hkl : ((marksSb k n).take j).length = j := by rw [List.length_take, marksSb_length]; omega
        generalize k + 5 * (j : Int) = K at *
        clear hKs
        go_wp2_with fail
        refine (markText_any K _ (by omega)).mono ?_
        rintro e w1 ⟨rfl, hbt⟩
        have hgr1 := grown_below hgr hbt
        have hro1 := rowsF_below hro hbt (Nat.le_refl _)
        clear hro hgr hbt
        have hbig : ((marksSb k n).take j).length * 5 + 5 ≤ xs.length := by rw [Hlen.out, hkl]; omega
        obtain ⟨u0, hu0⟩ := fillF_at Sb.csL ((marksSb k n).take j) xs hbig 0 (by omega)
        obtain ⟨u1, hu1⟩ := fillF_at Sb.csL ((marksSb k n).take j) xs hbig 1 (by omega)
        obtain ⟨u2, hu2⟩ := fillF_at Sb.csL ((marksSb k n).take j) xs hbig 2 (by omega)
        obtain ⟨u3, hu3⟩ := fillF_at Sb.csL ((marksSb k n).take j) xs hbig 3 (by omega)
        obtain ⟨u4, hu4⟩ := fillF_at Sb.csL ((marksSb k n).take j) xs hbig 4 (by omega)
        rw [hkl] at hu0 hu1 hu2 hu3 hu4
        have c0 := (hro1.cellAt (j * 5) (by omega)).trans hu0
        have c1 := (hro1.cellAt (j * 5 + 1) (by omega)).trans hu1
        have c2 := (hro1.cellAt (j * 5 + 2) (by omega)).trans hu2
        have c3 := (hro1.cellAt (j * 5 + 3) (by omega)).trans hu3
        have c4 := (hro1.cellAt (j * 5 + 4) (by omega)).trans hu4
        have f0 := hro1.frozenAt (j * 5)
        have f1 := hro1.frozenAt (j * 5 + 1)
        have f2 := hro1.frozenAt (j * 5 + 2)
        have f3 := hro1.frozenAt (j * 5 + 3)
        have f4 := hro1.frozenAt (j * 5 + 4)
        have hst := (((((hro1.stored (j * 5) (.string (mText K))).1.stored (j * 5 + 1) (.int .i64 (K + 1))).1.stored (j * 5 + 2) (.int .i64 (K + 1 + 1))).1.stored (j * 5 + 3) (.int .i64 (K + 1 + 1 + 1))).1.stored (j * 5 + 4) (.int .i64 (K + 1 + 1 + 1 + 1))).1
        have hfs := fillF_set Sb.csL ((marksSb k n).take j) xs (markSb K) hbig
        rw [hkl] at hfs
        rw [show ((((((fillF Sb.cs 5 ((marksSb k n).take j) xs).set (j * 5) (.string (mText K))).set (j * 5 + 1) (.int .i64 (K + 1))).set (j * 5 + 2) (.int .i64 (K + 1 + 1))).set (j * 5 + 3) (.int .i64 (K + 1 + 1 + 1))).set (j * 5 + 4) (.int .i64 (K + 1 + 1 + 1 + 1))) = _ from hfs, ← hT.out] at hst
        have Hst := Lib.hid hst
        clear hst hfs hkl hbig hro1 hu0 hu1 hu2 hu3 hu4
        go_wp2
        go_roundw
        case rel => exact ⟨j + 1, by omega, by go_num, by rw [← HKs.out], Hst.out, grown_set (grown_set (grown_set (grown_set (grown_set (hgr1) _ _ _) _ _ _) _ _ _) _ _ _) _ _ _⟩
        case measure => simp [intOf]; omega
      · have e : j = n := by omega
        subst e
        rw [List.take_of_length_le (by rw [marksSb_length]; omega), fillF_all Sb.csL _ xs (by rw [marksSb_length]; exact Hlen.out)] at hro
        go_wp2
        go_ret
        exact ⟨rfl, hro, hgr⟩
  · have e : n = 0 := by omega
    subst e
    have hx : xs = [] := List.length_eq_zero_iff.1 (by have := Hlen.out; omega)
    subst hx
    go_enter Try.func37, Try.ntmps37
    go_wp2
    go_loopw [1, 5] (fun m i wr => m = .int .i64 k ∧ i = .int .i64 0 ∧ w = wr) (fun _ _ _ => 0)
    case atStart => exact ⟨rfl, rfl, rfl⟩
    case round =>
      obtain ⟨rfl, rfl, rfl⟩ := hrel
      go_wp2
      go_ret
      exact ⟨by simp, hown, grown_refl _ _⟩

end Go.Proofs.Ytdaedgdglammhab
