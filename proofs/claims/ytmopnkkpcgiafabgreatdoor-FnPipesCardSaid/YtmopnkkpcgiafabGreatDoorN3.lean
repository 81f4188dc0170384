/-
  The law FnBasics: its own helpers.
-/
import Derived.Test.YtmopnkkpcgiafabGreatDoorM2
import Derived.Test.YtmopnkkpcgiafabGreatDoorA1
namespace Go.Proofs.YtmopnkkpcgiafabGreatDoor
open Go.ChangeShapes Go.WideShapes Go.ChangeAt Go.RowKit

theorem long_no (A B : Option Addr) (c d n m : Nat) (w : World) (hn : n ≤ 1048576) (hm : m ≤ 1048576) :
    Calls Tryz.prog 25 #[.slice A n c, .slice B m d] w fun e w' => e = .returned (.bool false) ∧ w = w' := by
  have h1 : ¬ (1048576 : Int) < (n : Int) := by omega
  have h2 : ¬ (1048576 : Int) < (m : Int) := by omega
  go_enter Tryz.func25, Tryz.ntmps25
  go_wp2
  go_ret
  exact ⟨rfl, rfl⟩
theorem long_yes1 (A B : Option Addr) (c d n m : Nat) (w : World) (hn : 1048576 < n) (hn1 : n ≤ 9223372036854775807) :
    Calls Tryz.prog 25 #[.slice A n c, .slice B m d] w fun e w' => e = .returned (.bool true) ∧ w = w' := by
  have h1 : (1048576 : Int) < (n : Int) := by omega
  go_enter Tryz.func25, Tryz.ntmps25
  go_wp2
  go_ret
  exact ⟨rfl, rfl⟩
theorem long_yes2 (A B : Option Addr) (c d n m : Nat) (w : World) (hn : n ≤ 1048576) (hm : 1048576 < m) (hm1 : m ≤ 9223372036854775807) :
    Calls Tryz.prog 25 #[.slice A n c, .slice B m d] w fun e w' => e = .returned (.bool true) ∧ w = w' := by
  have h1 : ¬ (1048576 : Int) < (n : Int) := by omega
  have h2 : (1048576 : Int) < (m : Int) := by omega
  go_enter Tryz.func25, Tryz.ntmps25
  go_wp2
  go_ret
  exact ⟨rfl, rfl⟩

theorem r8At_any (A : Option Addr) (n c : Nat) (zs : List Int) (k : Nat) (m : Int) (w : World) (h : SliceIn .u8 w A n zs) (hk : k ≤ 1000) (hm0 : 1 < m) (hm1 : m ≤ 10000) :
    Calls Tryz.prog 70 #[.slice A n c, .int .i64 (k : Int), .int .i64 m] w fun e w' => ∃ x : Int, e = .returned (.int .i64 x) ∧ 0 ≤ x ∧ x < m ∧ Drawn w w' := by
  obtain ⟨hz, hn, hA, hw⟩ := h
  have hn1 : n ≤ 9223372036854775807 := by unfold maxLen at hn; omega
  have hmm : ¬ m ≤ 1 := by omega
  have hm00 : (m == 0) = false := by rw [beq_eq_false_iff_ne]; omega
  by_cases hlt : k < n
  · obtain ⟨b, o, rfl, h1⟩ := hA (by rw [List.length_map]; omega)
    have hzl : k < zs.length := by omega
    have g1 : w.cell? ⟨b, o + k, none⟩ = some (.int .u8 zs[k]) := by rw [h1 k (by rw [List.length_map]; exact hzl)]; simp [hzl]
    have hzb : 0 ≤ zs[k] ∧ zs[k] ≤ 255 := by
      have := hw _ (List.getElem_mem hzl)
      simp [Lit.wf, IntKind.min, IntKind.max, IntKind.signed, IntKind.bits] at this
      omega
    generalize zs[k] = z at *
    have hzz : wrap64 z = z := IntWalk.wrap64_in z (by omega)
    clear h1 hA hw
    have h2 : ¬ (n : Int) ≤ (k : Int) := by omega
    go_enter Tryz.func70, Tryz.ntmps70
    go_wp2
    go_ret
    exact ⟨_, rfl, Int.emod_nonneg _ (by omega), Int.emod_lt_of_pos _ (by omega), Drawn.rfl' _⟩
  · have h2 : (n : Int) ≤ (k : Int) := by omega
    go_enter Tryz.func70, Tryz.ntmps70
    go_wp2
    go_ret
    exact ⟨0, rfl, by omega, by omega, Drawn.rfl' _⟩

theorem SliceIn.drawn {k : IntKind} {w w' : World} {A : Option Addr} {n : Nat} {zs : List Int} (h : SliceIn k w A n zs) (hd : Drawn w w') : SliceIn k w' A n zs := by
  obtain ⟨j, rfl⟩ := hd
  exact ⟨h.1, h.2.1, h.2.2.1, h.2.2.2⟩
theorem SliceIn.next {k : IntKind} {w w' : World} {A : Option Addr} {n : Nat} {zs : List Int} (h : SliceIn k w A n zs) (hb : Below w.heap.size w w') : SliceIn k w' A n zs :=
  ⟨h.1, h.2.1, h.2.2.1.next hb, h.2.2.2⟩
theorem wide_any (A : Option Addr) (n c : Nat) (zs : List Int) (k : Nat) (m : Int) (w : World) (h : SliceIn .u8 w A n zs) (hk : k ≤ 900) (hm0 : 1 < m) (hm1 : m ≤ 1000000) :
    Calls Tryz.prog 30 #[.slice A n c, .int .i64 (k : Int), .int .i64 m] w fun e w' => ∃ x : Int, e = .returned (.int .i64 x) ∧ 0 ≤ x ∧ x < m ∧ Drawn w w' := by
  have hm00 : (m == 0) = false := by rw [beq_eq_false_iff_ne]; omega
  go_enter Tryz.func30, Tryz.ntmps30
  go_wp2_with fail
  refine (r8At_any A n c zs k _ _ h (by omega) (by omega) (by omega)).mono ?_
  rintro e w1 ⟨x, rfl, hx0, hx1, hd1⟩
  go_wp2_with fail
  refine (r8At_any A n c zs (k + 1) _ _ (h.drawn hd1) (by omega) (by omega) (by omega)).mono ?_
  rintro e w2 ⟨y, rfl, hy0, hy1, hd2⟩
  go_wp2
  go_ret
  exact ⟨_, rfl, Int.emod_nonneg _ (by omega), Int.emod_lt_of_pos _ (by omega), hd1.then hd2⟩

end Go.Proofs.YtmopnkkpcgiafabGreatDoor
