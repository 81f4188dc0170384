/-
  BestThickness of the program.
-/
import Derived.Test.YtgdafgnjaogmeaaKa6
import Derived.Test.YtgdafgnjaogmeaaTw
namespace Go.Proofs.Ytgdafgnjaogmeaa
open Go.ChangeShapes Go.WideShapes Go.ChangeAt Go.RowKit Go.Shelf
set_option linter.unusedSimpArgs false
set_option maxRecDepth 100000
set_option maxHeartbeats 3200000
set_option linter.unusedVariables false


theorem firstLeast_any (F : Int → Int) (pb cp cb kb eb yb : Nat) (m : Nat) (w : World) (hm : m ≤ 1000)
    (hF : ∀ n, 1 ≤ n → n ≤ (m : Int) + 1 → -4000000000000000000 ≤ F n ∧ F n ≤ 4000000000000000000)
    (hf : ∀ (wr : World) (n : Int), 1 ≤ n → n ≤ (m : Int) + 1 → Below w.heap.size w wr → Calls Try.prog 86 #[.int .i64 n, .pointer (some ⟨pb, 0, none⟩), .pointer (some ⟨cp, 0, none⟩), .pointer (some ⟨cb, 0, none⟩), .pointer (some ⟨kb, 0, none⟩), .pointer (some ⟨eb, 0, none⟩), .pointer (some ⟨yb, 0, none⟩)] wr fun e w' => e = .returned (.int .i64 (F n)) ∧ Below wr.heap.size wr w') :
    Calls Try.prog 85 #[.int .i64 1, .int .i64 ((m : Int) + 1), .func (.func 86) #[] #[.pointer (some ⟨pb, 0, none⟩), .pointer (some ⟨cp, 0, none⟩), .pointer (some ⟨cb, 0, none⟩), .pointer (some ⟨kb, 0, none⟩), .pointer (some ⟨eb, 0, none⟩), .pointer (some ⟨yb, 0, none⟩)]] w fun e w' => e = .returned (.tuple #[.int .i64 (leastTo F 1 m).1, .int .i64 (leastTo F 1 m).2]) ∧ Below w.heap.size w w' := by
  have HF := Lib.hid hf
  have HBD := Lib.hid hF
  clear hf hF
  go_enter Try.func85, Try.ntmps85
  go_wp2_with fail
  refine (HF.out _ 1 (by omega) (by omega) (Below.refl _ _)).mono ?_
  rintro e w1 ⟨rfl, hb⟩
  have HB1 := Lib.hid hb
  have HE : Hid (leastTo F 1 0 = (1, F 1)) := Lib.hid rfl
  clear hb
  generalize F 1 = f1 at *
  go_wp2_with fail
  go_loopw [6, 7, 8] (fun u v i wr => ∃ (j : Nat) (x y : Int), j ≤ m ∧ i = .int .i64 ((j : Int) + 2) ∧ u = .int .i64 x ∧ v = .int .i64 y ∧ Hid (leastTo F 1 j = (x, y)) ∧ Below w.heap.size w wr) (fun _ _ i _ => m + 2 - (intOf i).toNat)
  case atStart => exact ⟨0, 1, f1, by omega, rfl, rfl, rfl, HE, HB1.out⟩
  case round =>
    obtain ⟨j, x, y, hj, rfl, rfl, rfl, HL, hb⟩ := hrel
    by_cases hlt : j < m
    · have HC := Lib.hid (fun wr (hbx : Below w.heap.size w wr) => HF.out wr ((j : Int) + 2) (by omega) (by omega) hbx)
      have HS : Hid (leastTo F 1 (j + 1) = if F ((j : Int) + 2) < (leastTo F 1 j).2 then ((j : Int) + 2, F ((j : Int) + 2)) else leastTo F 1 j) := Lib.hid (by
        have e : (1 : Int) + (j + 1 : Nat) = (j : Int) + 2 := by omega
        rw [leastTo, e])
      have hle : ((j : Int) + 2 ≤ (m : Int) + 1) := by omega
      generalize F ((j : Int) + 2) = z at *
      by_cases hz : z < y
      · have HS2 : Hid (leastTo F 1 (j + 1) = ((j : Int) + 2, z)) := Lib.hid (by rw [HS.out, HL.out, if_pos hz])
        clear HS
        go_wp2_with fail
        refine (HC.out _ hb).mono ?_
        rintro e w2 ⟨rfl, hb'⟩
        have hb := bnext hb hb'
        go_wp2
        go_roundw
        case rel => exact ⟨j + 1, (j : Int) + 2, z, by omega, by go_num, by go_num, by go_num, HS2, hb⟩
        case measure => simp [intOf]; omega
      · have HS2 : Hid (leastTo F 1 (j + 1) = (x, y)) := Lib.hid (by rw [HS.out, HL.out, if_neg hz])
        clear HS
        go_wp2_with fail
        refine (HC.out _ hb).mono ?_
        rintro e w2 ⟨rfl, hb'⟩
        have hb := bnext hb hb'
        go_wp2
        go_roundw
        case rel => exact ⟨j + 1, x, y, by omega, by go_num, by go_num, by go_num, HS2, hb⟩
        case measure => simp [intOf]; omega
    · obtain rfl : j = m := by omega
      have hle : ¬ ((j : Int) + 2 ≤ (j : Int) + 1) := by omega
      go_wp2
      go_ret2
      exact ⟨by rw [HL.out]; rfl, hb⟩

end Go.Proofs.Ytgdafgnjaogmeaa
