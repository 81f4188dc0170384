/-
  The model's source of choices: what is known of a number that it picks.
-/
import Derived.Test.YtgdafgnjaogmeabM2
namespace Go.Proofs.Ytgdafgnjaogmeab
open Go.ChangeShapes Go.WideShapes Go.ChangeAt Go.RowKit

/-- a source in block b: the bytes that it reads lie in another -/
def SrcAt (w : World) (b : Nat) (t : Int) : Prop :=
  0 ≤ t ∧ ∃ (A : Option Addr) (n c : Nat) (seed : Int) (zs : List Int),
    w.cell? ⟨b, 0, none⟩ = some (.slice A n c) ∧ w.cell? ⟨b, 1, none⟩ = some (.int .i64 t) ∧ w.cell? ⟨b, 2, none⟩ = some (.int .u64 seed) ∧
    w.frozen? ⟨b, 1, none⟩ = false ∧ w.frozen? ⟨b, 2, none⟩ = false ∧ zs.length = n ∧ n ≤ maxLen ∧ CellsAt w A (zs.map (Value.int .u8)) ∧ (∀ z ∈ zs, (Lit.int .u8 z).wf = true) ∧ (0 < n → ∀ b' o', A = some ⟨b', o', none⟩ → b' ≠ b)

theorem src_end {w : World} {b : Nat} {t : Int} {A : Option Addr} {n c : Nat} {seed : Int} {zs : List Int} (hc0 : w.cell? ⟨b, 0, none⟩ = some (.slice A n c)) (hc1 : w.cell? ⟨b, 1, none⟩ = some (.int .i64 t)) (hc2 : w.cell? ⟨b, 2, none⟩ = some (.int .u64 seed))
    (hf1 : w.frozen? ⟨b, 1, none⟩ = false) (hf2 : w.frozen? ⟨b, 2, none⟩ = false) (ht0 : 0 ≤ t) (ht1 : t ≤ 1000) (hz : zs.length = n) (hn : n ≤ maxLen) (hA : CellsAt w A (zs.map (Value.int .u8))) (hw : ∀ z ∈ zs, (Lit.int .u8 z).wf = true)
    (hne : 0 < n → ∀ b' o', A = some ⟨b', o', none⟩ → b' ≠ b) (k : Nat) (s' : Int) : SrcAt (((w.drewN k).setCell ⟨b, 1, none⟩ (.int .i64 (t + 1))).setCell ⟨b, 2, none⟩ (.int .u64 s')) b (t + 1) := by
  have d0 : (w.drewN k).cell? ⟨b, 0, none⟩ = some (.slice A n c) := hc0
  have d1 : (w.drewN k).cell? ⟨b, 1, none⟩ = some (.int .i64 t) := hc1
  have d2 : (w.drewN k).cell? ⟨b, 2, none⟩ = some (.int .u64 seed) := hc2
  have dA : CellsAt (w.drewN k) A (zs.map (Value.int .u8)) := hA
  have e1 : (w.drewN k).frozen? ⟨b, 1, none⟩ = false := hf1
  have e2 : (w.drewN k).frozen? ⟨b, 2, none⟩ = false := hf2
  refine ⟨by omega, A, n, c, s', zs, ?_, ?_, ?_, by simpa using e1, by simpa using e2, hz, hn, ?_, hw, hne⟩
  · exact ((World.cell?_setCell_other _ _ _ _ (by simp)).trans (World.cell?_setCell_other _ _ _ _ (by simp))).trans d0
  · exact (World.cell?_setCell_other _ _ _ _ (by simp)).trans (World.cell?_setCell_same _ _ _ d1)
  · exact World.cell?_setCell_same _ _ _ (u := .int .u64 seed) ((World.cell?_setCell_other _ ⟨b, 1, none⟩ _ _ (by simp)).trans d2)
  · by_cases h0 : n = 0
    · have e : zs = [] := List.length_eq_zero_iff.1 (by omega)
      subst e
      exact CellsAt.nil _ _
    refine dA.keep fun b' o' e => ?_
    have := hne (by omega) b' o' e
    rw [Below.heap_setCell _ _ _ _ (by simpa using this), Below.heap_setCell _ _ _ _ (by simpa using this)]

theorem low_byte (Y : Int) : 0 ≤ wrap64 (bits .and .u64 (IntKind.u64.wrap Y / 1099511627776) 255) ∧ wrap64 (bits .and .u64 (IntKind.u64.wrap Y / 1099511627776) 255) ≤ 255 := by
  have hX : 0 ≤ IntKind.u64.wrap Y ∧ IntKind.u64.wrap Y < 18446744073709551616 := by
    rw [IntKind.wrap_u64]
    omega
  generalize IntKind.u64.wrap Y = X at *
  obtain ⟨N, hN⟩ := Int.eq_ofNat_of_zero_le (by omega : 0 ≤ X / 1099511627776)
  have h := Go.bits_and_u64_nat N 255 (by omega) (by omega)
  rw [hN, show ((255 : Int)) = ((255 : Nat) : Int) from rfl, h]
  have := Nat.and_le_right (n := N) (m := 255)
  rw [IntWalk.wrap64_in _ (by omega)]
  omega
theorem next_any (b : Nat) (t : Int) (w : World) (h : SrcAt w b t) (ht1 : t ≤ 1000) :
    Calls Try.prog 122 #[.pointer (some ⟨b, 0, none⟩)] w fun e w' => ∃ x : Int, e = .returned (.int .i64 x) ∧ 0 ≤ x ∧ x ≤ 255 ∧ SrcAt w' b (t + 1) ∧ w.grownBy w' (some b) := by
  obtain ⟨ht0, A, n, c, seed, zs, hc0, hc1, hc2, hf1, hf2, hz, hn, hA, hw, hne⟩ := h
  have hm : n ≤ 9223372036854775807 := by unfold maxLen at hn; omega
  obtain ⟨T, rfl⟩ := Int.eq_ofNat_of_zero_le ht0
  by_cases hlt : T < n
  · obtain ⟨b', o, rfl, h1⟩ := hA (by rw [List.length_map]; omega)
    have hzl : T < zs.length := by omega
    have g1 : w.cell? ⟨b', o + T, none⟩ = some (.int .u8 zs[T]) := by rw [h1 T (by rw [List.length_map]; exact hzl)]; simp [hzl]
    have hzw := hw _ (List.getElem_mem hzl)
    have hzb : 0 ≤ zs[T] ∧ zs[T] ≤ 255 := by
      have := hzw
      simp [Lit.wf, IntKind.min, IntKind.max, IntKind.signed, IntKind.bits] at this
      omega
    generalize zs[T] = z at *
    clear hzw
    have hbb := hne (by omega) b' o rfl
    have HA := Lib.hid hA
    have HN := Lib.hid hne
    have HW := Lib.hid hw
    clear h1 hA hne hw
    have hzz : wrap64 z = z := IntWalk.wrap64_in z (by omega)
    go_enter Try.func122, Try.ntmps122
    go_wp2
    go_quiet (fail)
    go_wp2
    go_quiet (fail)
    go_wp2
    go_quiet (fail)
    go_wp2
    go_ret
    exact ⟨z, rfl, by omega, by omega, src_end hc0 hc1 hc2 hf1 hf2 ht0 ht1 hz hn HA.out HW.out HN.out _ _, grown_drew (grown_set (grown_set (grown_drew (grown_refl _ _) _) _ _ _) _ _ _) _⟩
  · have HA := Lib.hid hA
    have HN := Lib.hid hne
    have HW := Lib.hid hw
    clear hA hne hw
    go_enter Try.func122, Try.ntmps122
    go_wp2
    go_quiet (fail)
    go_wp2
    go_quiet (fail)
    go_wp2
    go_ret
    refine ⟨_, rfl, ?_, ?_, src_end hc0 hc1 hc2 hf1 hf2 ht0 ht1 hz hn HA.out HW.out HN.out _ _, grown_drew (grown_set (grown_set (grown_drew (grown_refl _ _) _) _ _ _) _ _ _) _⟩
    · exact (low_byte _).1
    · exact (low_byte _).2

theorem grown_then {a b c : World} {row : Option Nat} (h : a.grownBy b row) (k : b.grownBy c row) : a.grownBy c row :=
  ⟨k.os.trans h.os, k.tape.trans h.tape, k.output.trans h.output, Nat.le_trans h.size k.size, fun i hi hne => (k.block i (Nat.lt_of_lt_of_le hi h.size) hne).trans (h.block i hi hne)⟩
set_option maxRecDepth 100000 in
theorem pick_any (b : Nat) (t n : Int) (w : World) (h : SrcAt w b t) (ht1 : t ≤ 999) (hn : 200 < n) (hn1 : n ≤ 60000) :
    Calls Try.prog 76 #[.pointer (some ⟨b, 0, none⟩), .int .i64 n] w fun e w' => ∃ x : Int, e = .returned (.int .i64 x) ∧ 0 ≤ x ∧ x < n ∧ SrcAt w' b (t + 2) ∧ w.grownBy w' (some b) := by
  go_enter Try.func76, Try.ntmps76
  go_wp2_with fail
  refine (next_any b t _ h (by omega)).mono ?_
  rintro e w1 ⟨x, rfl, hx0, hx1, hs1, hg1⟩
  go_wp2_with fail
  refine (next_any b (t + 1) _ hs1 (by omega)).mono ?_
  rintro e w2 ⟨y, rfl, hy0, hy1, hs2, hg2⟩
  have hn0 : (n == 0) = false := by rw [beq_eq_false_iff_ne]; omega
  go_wp2
  go_ret
  have hs2' : SrcAt w2 b (t + 2) := by rw [show t + 2 = t + 1 + 1 by omega]; exact hs2
  refine ⟨_, rfl, ?_, ?_, hs2', grown_then hg1 hg2⟩
  · exact Int.emod_nonneg _ (by omega)
  · exact Int.emod_lt_of_pos _ (by omega)

theorem frozen_new (w : World) (cs : Array Value) (E : TypeId) (o : Nat) : (w.alloc (.cells cs E)).frozen? ⟨w.heap.size, o, none⟩ = false := by
  have hk : (w.alloc (.cells cs E)).heap[w.heap.size]? = some (.cells cs E) := by
    show (w.heap.push (.cells cs E))[w.heap.size]? = _
    exact Array.getElem?_push_size
  unfold World.frozen?
  dsimp only
  rw [hk]
  simp
set_option maxRecDepth 100000 in
theorem from_any (A : Option Addr) (n c : Nat) (zs : List Int) (w : World) (h : SliceIn .u8 w A n zs) :
    Calls Try.prog 75 #[.slice A n c] w fun e w' => ∃ b : Nat, e = .returned (.pointer (some ⟨b, 0, none⟩)) ∧ w.heap.size ≤ b ∧ SrcAt w' b 0 ∧ Below w.heap.size w w' := by
  obtain ⟨hz, hn, hA, hw⟩ := h
  have hlies : ∀ b' o', A = some ⟨b', o', none⟩ → 0 < n → b' < w.heap.size := fun b' o' e h0 => by subst e; exact CellsAt.lies hA (by rw [List.length_map]; omega)
  go_enter Try.func75, Try.ntmps75
  go_wp2
  go_ret
  refine ⟨_, rfl, Nat.le_refl _, ⟨by omega, A, n, c, 0, zs, ?_, ?_, ?_, ?_, ?_, hz, hn, ?_, hw, fun h0 b' o' e => ?_⟩, (Below.refl _ _).alloc (Nat.le_refl _) _⟩
  · simp
  · simp
  · simp
  · exact frozen_new _ _ _ _
  · exact frozen_new _ _ _ _
  · exact CellsAt.next hA ((Below.refl _ _).alloc (Nat.le_refl _) _)
  · have := hlies b' o' e h0
    omega

end Go.Proofs.Ytgdafgnjaogmeab
