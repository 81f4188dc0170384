/-
  The law FnBasics: its own helpers.
-/
import Derived.Test.YtgakfpmeedmodaaDoorM2
import Derived.Test.YtgakfpmeedmodaaDoorA1
namespace Go.Proofs.YtgakfpmeedmodaaDoor
open Go.ChangeShapes Go.WideShapes Go.ChangeAt Go.RowKit

theorem long_no (A B : Option Addr) (c d n m : Nat) (w : World) (hn : n ≤ 1048576) (hm : m ≤ 1048576) :
    Calls Tryd.prog 8 #[.slice A n c, .slice B m d] w fun e w' => e = .returned (.bool false) ∧ w = w' := by
  have h1 : ¬ (1048576 : Int) < (n : Int) := by omega
  have h2 : ¬ (1048576 : Int) < (m : Int) := by omega
  go_enter Tryd.func8, Tryd.ntmps8
  go_wp2
  go_ret
  exact ⟨rfl, rfl⟩
theorem long_yes1 (A B : Option Addr) (c d n m : Nat) (w : World) (hn : 1048576 < n) (hn1 : n ≤ 9223372036854775807) :
    Calls Tryd.prog 8 #[.slice A n c, .slice B m d] w fun e w' => e = .returned (.bool true) ∧ w = w' := by
  have h1 : (1048576 : Int) < (n : Int) := by omega
  go_enter Tryd.func8, Tryd.ntmps8
  go_wp2
  go_ret
  exact ⟨rfl, rfl⟩
theorem long_yes2 (A B : Option Addr) (c d n m : Nat) (w : World) (hn : n ≤ 1048576) (hm : 1048576 < m) (hm1 : m ≤ 9223372036854775807) :
    Calls Tryd.prog 8 #[.slice A n c, .slice B m d] w fun e w' => e = .returned (.bool true) ∧ w = w' := by
  have h1 : ¬ (1048576 : Int) < (n : Int) := by omega
  have h2 : (1048576 : Int) < (m : Int) := by omega
  go_enter Tryd.func8, Tryd.ntmps8
  go_wp2
  go_ret
  exact ⟨rfl, rfl⟩

theorem at_any (A : Option Addr) (n c : Nat) (zs : List Int) (k : Nat) (m : Int) (w : World) (h : SliceIn .u8 w A n zs) (hk : k ≤ 1000) (hm0 : 1 < m) (hm1 : m ≤ 10000) :
    Calls Tryd.prog 33 #[.slice A n c, .int .i64 (k : Int), .int .i64 m] w fun e w' => ∃ x : Int, e = .returned (.int .i64 x) ∧ 0 ≤ x ∧ x < m ∧ Drawn w w' := by
  obtain ⟨hz, hn, hA, hw⟩ := h
  have hn1 : n ≤ 9223372036854775807 := by unfold maxLen at hn; omega
  have hmm : ¬ m ≤ 1 := by omega
  have hm00 : (m == 0) = false := by rw [beq_eq_false_iff_ne]; omega
  by_cases hlt : k < n
  · obtain ⟨b, o, rfl, h1⟩ := hA (by rw [List.length_map]; omega)
    have hzl : k < zs.length := by omega
    have g1 : w.cell? ⟨b, o + k, none⟩ = some (.int .u8 zs[k]) := by rw [h1 k (by rw [List.length_map]; exact hzl)]; simp [hzl]
    have hzb : 0 ≤ zs[k] ∧ zs[k] ≤ 255 := by
      have := hw _ (List.getElem_mem hzl)
      simp [Lit.wf, IntKind.min, IntKind.max, IntKind.signed, IntKind.bits] at this
      omega
    generalize zs[k] = z at *
    have hzz : wrap64 z = z := IntWalk.wrap64_in z (by omega)
    clear h1 hA hw
    have h2 : ¬ (n : Int) ≤ (k : Int) := by omega
    go_enter Tryd.func33, Tryd.ntmps33
    go_wp2
    go_ret
    exact ⟨_, rfl, Int.emod_nonneg _ (by omega), Int.emod_lt_of_pos _ (by omega), Drawn.rfl' _⟩
  · have h2 : (n : Int) ≤ (k : Int) := by omega
    go_enter Tryd.func33, Tryd.ntmps33
    go_wp2
    go_ret
    exact ⟨0, rfl, by omega, by omega, Drawn.rfl' _⟩

theorem SliceIn.drawn {k : IntKind} {w w' : World} {A : Option Addr} {n : Nat} {zs : List Int} (h : SliceIn k w A n zs) (hd : Drawn w w') : SliceIn k w' A n zs := by
  obtain ⟨j, rfl⟩ := hd
  exact ⟨h.1, h.2.1, h.2.2.1, h.2.2.2⟩
theorem SliceIn.next {k : IntKind} {w w' : World} {A : Option Addr} {n : Nat} {zs : List Int} (h : SliceIn k w A n zs) (hb : Below w.heap.size w w') : SliceIn k w' A n zs :=
  ⟨h.1, h.2.1, h.2.2.1.next hb, h.2.2.2⟩
theorem wide_any (A : Option Addr) (n c : Nat) (zs : List Int) (k : Nat) (m : Int) (w : World) (h : SliceIn .u8 w A n zs) (hk : k ≤ 900) (hm0 : 1 < m) (hm1 : m ≤ 10000) :
    Calls Tryd.prog 13 #[.slice A n c, .int .i64 (k : Int), .int .i64 m] w fun e w' => ∃ x : Int, e = .returned (.int .i64 x) ∧ 0 ≤ x ∧ x < m ∧ Drawn w w' := by
  have hm00 : (m == 0) = false := by rw [beq_eq_false_iff_ne]; omega
  go_enter Tryd.func13, Tryd.ntmps13
  go_wp2_with fail
  refine (at_any A n c zs k _ _ h (by omega) (by omega) (by omega)).mono ?_
  rintro e w1 ⟨x, rfl, hx0, hx1, hd1⟩
  go_wp2_with fail
  refine (at_any A n c zs (k + 1) _ _ (h.drawn hd1) (by omega) (by omega) (by omega)).mono ?_
  rintro e w2 ⟨y, rfl, hy0, hy1, hd2⟩
  go_wp2
  go_ret
  exact ⟨_, rfl, Int.emod_nonneg _ (by omega), Int.emod_lt_of_pos _ (by omega), hd1.then hd2⟩

theorem abs_any (x : Int) (w : World) (h0 : -9223372036854775807 ≤ x) (h1 : x ≤ 9223372036854775807) :
    Calls Tryd.prog 12 #[.int .i64 x] w fun e w' => e = .returned (.int .i64 (absI x)) ∧ w = w' := by
  by_cases h : x < 0
  · have H : Hid (absI x = -x) := Lib.hid (if_pos h)
    have h2 : x < -x := by omega
    go_enter Tryd.func12, Tryd.ntmps12
    go_wp2
    go_ret
    exact ⟨by rw [H.out]; rfl, rfl⟩
  · have H : Hid (absI x = x) := Lib.hid (if_neg h)
    have h2 : ¬ x < -x := by omega
    go_enter Tryd.func12, Tryd.ntmps12
    go_wp2
    go_ret
    exact ⟨by rw [H.out]; rfl, rfl⟩
theorem r8Same_same (A B : Option Addr) (c d : Nat) (xs : List Int) (w : World) (hx : xs.length ≤ maxLen)
    (hA : CellsAt w A (intsV xs)) (hB : CellsAt w B (intsV xs)) :
    Calls Tryd.prog 19 #[.slice A xs.length c, .slice B xs.length d] w fun e w' => e = .returned (.bool true) ∧ Drawn w w' := by
  have hm : xs.length ≤ 9223372036854775807 := by unfold maxLen at hx; omega
  by_cases h0 : 0 < xs.length
  · obtain ⟨b1, o1, rfl, h1⟩ := hA (by rw [intsV_length]; exact h0)
    obtain ⟨b2, o2, rfl, h2⟩ := hB (by rw [intsV_length]; exact h0)
    go_enter Tryd.func19, Tryd.ntmps19
    go_wp2
    go_loopw [5] (fun i wr => ∃ k : Nat, k ≤ xs.length ∧ i = .int .i64 k ∧ Drawn w wr) (fun i _ => xs.length - (intOf i).toNat)
    case atStart => exact ⟨0, Nat.zero_le _, rfl, Drawn.rfl' _⟩
    case round =>
      obtain ⟨k, hk, rfl, ⟨n, rfl⟩⟩ := hrel
      by_cases hlt : k < xs.length
      · have g1 : w.cell? ⟨b1, o1 + k, none⟩ = some (.int .i64 xs[k]) := by rw [h1 k (by rw [intsV_length]; exact hlt), intsV_at _ _ hlt]
        have g2 : w.cell? ⟨b2, o2 + k, none⟩ = some (.int .i64 xs[k]) := by rw [h2 k (by rw [intsV_length]; exact hlt), intsV_at _ _ hlt]
        generalize xs[k] = x at *
        clear h1 h2 hA hB
        go_wp2
        go_quiet (fail)
        go_wp2
        go_roundw
        case rel => exact ⟨k + 1, by omega, by go_num, ⟨_, rfl⟩⟩
        case measure => simp [intOf]; omega
      · go_wp2
        go_ret
        exact ⟨rfl, ⟨_, rfl⟩⟩
  · go_enter Tryd.func19, Tryd.ntmps19
    go_wp2
    go_loopw [5] (fun i wr => i = .int .i64 0 ∧ w = wr) (fun _ _ => 0)
    case atStart => exact ⟨rfl, rfl⟩
    case round =>
      obtain ⟨rfl, rfl⟩ := hrel
      go_wp2
      go_ret
      exact ⟨rfl, Drawn.rfl' _⟩

end Go.Proofs.YtgakfpmeedmodaaDoor
