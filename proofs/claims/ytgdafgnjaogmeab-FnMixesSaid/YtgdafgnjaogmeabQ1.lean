/-
  The model's source of choices with the place of its bytes kept, and a pipe that it draws.
-/
import Derived.Test.YtgdafgnjaogmeabN1
import Derived.Test.YtgdafgnjaogmeabP2
namespace Go.Proofs.Ytgdafgnjaogmeab
open Go.ChangeShapes Go.WideShapes Go.ChangeAt Go.RowKit

/-- a source in block b over these bytes; neither its bytes nor itself lie behind B -/
def SrcOf (B : Nat) (w : World) (b : Nat) (t : Int) : Prop :=
  0 ≤ t ∧ b < B ∧ ∃ (A : Option Addr) (n c : Nat) (seed : Int) (zs : List Int),
    w.cell? ⟨b, 0, none⟩ = some (.slice A n c) ∧ w.cell? ⟨b, 1, none⟩ = some (.int .i64 t) ∧ w.cell? ⟨b, 2, none⟩ = some (.int .u64 seed) ∧
    w.frozen? ⟨b, 1, none⟩ = false ∧ w.frozen? ⟨b, 2, none⟩ = false ∧ zs.length = n ∧ n ≤ maxLen ∧ CellsAt w A (zs.map (Value.int .u8)) ∧ (∀ z ∈ zs, (Lit.int .u8 z).wf = true) ∧ (0 < n → ∀ b' o', A = some ⟨b', o', none⟩ → b' ≠ b ∧ b' < B)

theorem srcOf_end {w : World} {b : Nat} {t : Int} {A : Option Addr} {n c : Nat} {seed : Int} {zs : List Int} (hc0 : w.cell? ⟨b, 0, none⟩ = some (.slice A n c)) (hc1 : w.cell? ⟨b, 1, none⟩ = some (.int .i64 t)) (hc2 : w.cell? ⟨b, 2, none⟩ = some (.int .u64 seed))
    (hf1 : w.frozen? ⟨b, 1, none⟩ = false) (hf2 : w.frozen? ⟨b, 2, none⟩ = false) (ht0 : 0 ≤ t) (ht1 : t ≤ 1000) (hz : zs.length = n) (hn : n ≤ maxLen) (hA : CellsAt w A (zs.map (Value.int .u8))) (hw : ∀ z ∈ zs, (Lit.int .u8 z).wf = true)
    {B : Nat} (hbB : b < B) (hne : 0 < n → ∀ b' o', A = some ⟨b', o', none⟩ → b' ≠ b ∧ b' < B) (k : Nat) (s' : Int) : SrcOf B (((w.drewN k).setCell ⟨b, 1, none⟩ (.int .i64 (t + 1))).setCell ⟨b, 2, none⟩ (.int .u64 s')) b (t + 1) := by
  have d0 : (w.drewN k).cell? ⟨b, 0, none⟩ = some (.slice A n c) := hc0
  have d1 : (w.drewN k).cell? ⟨b, 1, none⟩ = some (.int .i64 t) := hc1
  have d2 : (w.drewN k).cell? ⟨b, 2, none⟩ = some (.int .u64 seed) := hc2
  have dA : CellsAt (w.drewN k) A (zs.map (Value.int .u8)) := hA
  have e1 : (w.drewN k).frozen? ⟨b, 1, none⟩ = false := hf1
  have e2 : (w.drewN k).frozen? ⟨b, 2, none⟩ = false := hf2
  refine ⟨by omega, hbB, A, n, c, s', zs, ?_, ?_, ?_, by simpa using e1, by simpa using e2, hz, hn, ?_, hw, hne⟩
  · exact ((World.cell?_setCell_other _ _ _ _ (by simp)).trans (World.cell?_setCell_other _ _ _ _ (by simp))).trans d0
  · exact (World.cell?_setCell_other _ _ _ _ (by simp)).trans (World.cell?_setCell_same _ _ _ d1)
  · exact World.cell?_setCell_same _ _ _ (u := .int .u64 seed) ((World.cell?_setCell_other _ ⟨b, 1, none⟩ _ _ (by simp)).trans d2)
  · by_cases h0 : n = 0
    · have e : zs = [] := List.length_eq_zero_iff.1 (by omega)
      subst e
      exact CellsAt.nil _ _
    refine dA.keep fun b' o' e => ?_
    have := (hne (by omega) b' o' e).1
    rw [Below.heap_setCell _ _ _ _ (by simpa using this), Below.heap_setCell _ _ _ _ (by simpa using this)]


theorem nextOf_any (B b : Nat) (t : Int) (w : World) (h : SrcOf B w b t) (ht1 : t ≤ 1000) :
    Calls Try.prog 122 #[.pointer (some ⟨b, 0, none⟩)] w fun e w' => ∃ x : Int, e = .returned (.int .i64 x) ∧ 0 ≤ x ∧ x ≤ 255 ∧ SrcOf B w' b (t + 1) ∧ w.grownBy w' (some b) := by
  obtain ⟨ht0, hbB, A, n, c, seed, zs, hc0, hc1, hc2, hf1, hf2, hz, hn, hA, hw, hne⟩ := h
  have hm : n ≤ 9223372036854775807 := by unfold maxLen at hn; omega
  obtain ⟨T, rfl⟩ := Int.eq_ofNat_of_zero_le ht0
  by_cases hlt : T < n
  · obtain ⟨b', o, rfl, h1⟩ := hA (by rw [List.length_map]; omega)
    have hzl : T < zs.length := by omega
    have g1 : w.cell? ⟨b', o + T, none⟩ = some (.int .u8 zs[T]) := by rw [h1 T (by rw [List.length_map]; exact hzl)]; simp [hzl]
    have hzw := hw _ (List.getElem_mem hzl)
    have hzb : 0 ≤ zs[T] ∧ zs[T] ≤ 255 := by
      have := hzw
      simp [Lit.wf, IntKind.min, IntKind.max, IntKind.signed, IntKind.bits] at this
      omega
    generalize zs[T] = z at *
    clear hzw
    have hbb := (hne (by omega) b' o rfl).1
    have HA := Lib.hid hA
    have HN := Lib.hid hne
    have HW := Lib.hid hw
    clear h1 hA hne hw
    have hzz : wrap64 z = z := IntWalk.wrap64_in z (by omega)
    go_enter Try.func122, Try.ntmps122
    go_wp2
    go_quiet (fail)
    go_wp2
    go_quiet (fail)
    go_wp2
    go_quiet (fail)
    go_wp2
    go_ret
    exact ⟨z, rfl, by omega, by omega, srcOf_end hc0 hc1 hc2 hf1 hf2 ht0 ht1 hz hn HA.out HW.out hbB HN.out _ _, grown_drew (grown_set (grown_set (grown_drew (grown_refl _ _) _) _ _ _) _ _ _) _⟩
  · have HA := Lib.hid hA
    have HN := Lib.hid hne
    have HW := Lib.hid hw
    clear hA hne hw
    go_enter Try.func122, Try.ntmps122
    go_wp2
    go_quiet (fail)
    go_wp2
    go_quiet (fail)
    go_wp2
    go_ret
    refine ⟨_, rfl, ?_, ?_, srcOf_end hc0 hc1 hc2 hf1 hf2 ht0 ht1 hz hn HA.out HW.out hbB HN.out _ _, grown_drew (grown_set (grown_set (grown_drew (grown_refl _ _) _) _ _ _) _ _ _) _⟩
    · exact (low_byte _).1
    · exact (low_byte _).2


theorem pickOf_any (B b : Nat) (t n : Int) (w : World) (h : SrcOf B w b t) (ht1 : t ≤ 999) (hn : 200 < n) (hn1 : n ≤ 60000) :
    Calls Try.prog 76 #[.pointer (some ⟨b, 0, none⟩), .int .i64 n] w fun e w' => ∃ x : Int, e = .returned (.int .i64 x) ∧ 0 ≤ x ∧ x < n ∧ SrcOf B w' b (t + 2) ∧ w.grownBy w' (some b) := by
  go_enter Try.func76, Try.ntmps76
  go_wp2_with fail
  refine (nextOf_any B b t _ h (by omega)).mono ?_
  rintro e w1 ⟨x, rfl, hx0, hx1, hs1, hg1⟩
  go_wp2_with fail
  refine (nextOf_any B b (t + 1) _ hs1 (by omega)).mono ?_
  rintro e w2 ⟨y, rfl, hy0, hy1, hs2, hg2⟩
  have hn0 : (n == 0) = false := by rw [beq_eq_false_iff_ne]; omega
  go_wp2
  go_ret
  have hs2' : SrcOf B w2 b (t + 2) := by rw [show t + 2 = t + 1 + 1 by omega]; exact hs2
  refine ⟨_, rfl, ?_, ?_, hs2', grown_then hg1 hg2⟩
  · exact Int.emod_nonneg _ (by omega)
  · exact Int.emod_lt_of_pos _ (by omega)


theorem pickSmall_any (B b : Nat) (t n : Int) (w : World) (h : SrcOf B w b t) (ht1 : t ≤ 999) (hn : 1 < n) (hn1 : n ≤ 200) :
    Calls Try.prog 76 #[.pointer (some ⟨b, 0, none⟩), .int .i64 n] w fun e w' => ∃ x : Int, e = .returned (.int .i64 x) ∧ 0 ≤ x ∧ x < n ∧ SrcOf B w' b (t + 1) ∧ w.grownBy w' (some b) := by
  have h1 : ¬ n ≤ 1 := by omega
  have h2 : ¬ 200 < n := by omega
  have hn0 : (n == 0) = false := by rw [beq_eq_false_iff_ne]; omega
  go_enter Try.func76, Try.ntmps76
  go_wp2_with fail
  refine (nextOf_any B b t _ h (by omega)).mono ?_
  rintro e w1 ⟨x, rfl, hx0, hx1, hs1, hg1⟩
  go_wp2
  go_ret
  exact ⟨_, rfl, Int.emod_nonneg _ (by omega), Int.emod_lt_of_pos _ (by omega), hs1, hg1⟩
theorem SrcOf.next {B : Nat} {w w' : World} {b : Nat} {t : Int} (h : SrcOf B w b t) (hw : Below B w w') : SrcOf B w' b t := by
  obtain ⟨ht, hbB, A, n, c, seed, zs, h0, h1, h2, f1, f2, hz, hn, hA, hwf, hne⟩ := h
  refine ⟨ht, hbB, A, n, c, seed, zs, (hw.cell (p := ⟨b, 0, none⟩) hbB).trans h0, (hw.cell (p := ⟨b, 1, none⟩) hbB).trans h1, (hw.cell (p := ⟨b, 2, none⟩) hbB).trans h2, (hw.frozen (p := ⟨b, 1, none⟩) hbB).trans f1, (hw.frozen (p := ⟨b, 2, none⟩) hbB).trans f2, hz, hn, ?_, hwf, hne⟩
  by_cases h0 : n = 0
  · have e : zs = [] := List.length_eq_zero_iff.1 (by omega)
    subst e
    exact CellsAt.nil _ _
  exact hA.keep fun b' o' e => hw.block _ ((hne (by omega) b' o' e).2)
theorem fromOf_any (A : Option Addr) (n c : Nat) (zs : List Int) (w : World) (h : SliceIn .u8 w A n zs) :
    Calls Try.prog 75 #[.slice A n c] w fun e w' => ∃ b : Nat, e = .returned (.pointer (some ⟨b, 0, none⟩)) ∧ w.heap.size ≤ b ∧ SrcOf w'.heap.size w' b 0 ∧ Below w.heap.size w w' := by
  obtain ⟨hz, hn, hA, hw⟩ := h
  have hlies : ∀ b' o', A = some ⟨b', o', none⟩ → 0 < n → b' < w.heap.size := fun b' o' e h0 => by subst e; exact CellsAt.lies hA (by rw [List.length_map]; omega)
  go_enter Try.func75, Try.ntmps75
  go_wp2
  go_ret
  refine ⟨_, rfl, Nat.le_refl _, ⟨by omega, by simp, A, n, c, 0, zs, ?_, ?_, ?_, ?_, ?_, hz, hn, ?_, hw, fun h0 b' o' e => ?_⟩, (Below.refl _ _).alloc (Nat.le_refl _) _⟩
  · simp
  · simp
  · simp
  · exact frozen_new _ _ _ _
  · exact frozen_new _ _ _ _
  · exact CellsAt.next hA ((Below.refl _ _).alloc (Nat.le_refl _) _)
  · have := hlies b' o' e h0
    rw [World.size_alloc]
    omega

end Go.Proofs.Ytgdafgnjaogmeab
