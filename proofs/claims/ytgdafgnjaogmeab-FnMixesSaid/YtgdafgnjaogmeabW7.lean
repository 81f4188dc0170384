/-
  MixWater of both sides.
-/
import Derived.Test.YtgdafgnjaogmeabA3
import Derived.Test.YtgdafgnjaogmeabW3
import Derived.Test.YtgdafgnjaogmeabM2
namespace Go.Proofs.Ytgdafgnjaogmeab
open Go.ChangeShapes Go.WideShapes Go.ChangeAt Go.RowKit
set_option linter.unusedVariables false


/-- heat and water of the first flows -/
def mixH (fs ts : List Int) : Nat → Int
  | 0 => 0
  | k + 1 => mixH fs ts k + fs.getD k 0 * ts.getD k 0
def mixW (fs : List Int) : Nat → Int
  | 0 => 0
  | k + 1 => mixW fs k + fs.getD k 0
theorem mix_bd (fs ts : List Int) (k : Nat) (h : ∀ j, j < k → (0 ≤ fs.getD j 0 ∧ fs.getD j 0 ≤ 100000) ∧ (0 ≤ ts.getD j 0 ∧ ts.getD j 0 ≤ 18000)) :
    (0 ≤ mixH fs ts k ∧ mixH fs ts k ≤ k * 1800000000) ∧ (0 ≤ mixW fs k ∧ mixW fs k ≤ k * 100000) := by
  induction k with
  | zero => exact ⟨⟨Int.le_refl _, Int.le_refl _⟩, ⟨Int.le_refl _, Int.le_refl _⟩⟩
  | succ k ih =>
    obtain ⟨⟨a, b⟩, ⟨c, d⟩⟩ := ih fun j hj => h j (by omega)
    obtain ⟨⟨f0, f1⟩, ⟨t0, t1⟩⟩ := h k (by omega)
    have m := mul_range _ _ 100000 18000 f0 f1 t0 t1
    unfold mixH mixW
    constructor <;> constructor <;> omega
theorem allIn_iff (lo hi : Int) (l : List Int) (h : lo ≤ hi) : allIn lo hi l = true ↔ ∀ j, j < l.length → lo ≤ l.getD j 0 ∧ l.getD j 0 ≤ hi := by
  unfold allIn
  rw [List.all_eq_true]
  constructor
  · intro k j hj
    have := k l[j] (List.getElem_mem hj)
    rw [decide_eq_true_eq] at this
    simpa [List.getD, hj] using this
  · intro k x hx
    obtain ⟨j, hj, rfl⟩ := List.getElem_of_mem hx
    have := k j hj
    rw [decide_eq_true_eq]
    simpa [List.getD, hj] using this
/-- the lists of MixWater are as stated -/
def mixB (fs ts : List Int) : Bool := inB fs.length 1 64 && (decide (ts.length = fs.length) && (allIn 0 100000 fs && allIn 0 18000 ts))
def mixV (fs ts : List Int) : Int := if mixB fs ts = true ∧ mixW fs fs.length ≠ 0 then nearI (mixH fs ts fs.length) (mixW fs fs.length) else 0
def mixC (fs ts : List Int) : Int := if mixB fs ts = true then (if mixW fs fs.length = 0 then 6 else 0) else 2
theorem mix_no (fs ts : List Int) (h : mixB fs ts = false) : mixV fs ts = 0 ∧ mixC fs ts = 2 := by
  unfold mixV mixC
  rw [h]
  simp
theorem mix_none (fs ts : List Int) (h : mixB fs ts = true) (hw : mixW fs fs.length = 0) : mixV fs ts = 0 ∧ mixC fs ts = 6 := by
  unfold mixV mixC
  rw [h, hw]
  simp
theorem mix_yes (fs ts : List Int) (h : mixB fs ts = true) (hw : mixW fs fs.length ≠ 0) : mixV fs ts = nearI (mixH fs ts fs.length) (mixW fs fs.length) ∧ mixC fs ts = 0 := by
  unfold mixV mixC
  rw [if_pos ⟨h, hw⟩, if_pos h, if_neg hw]
  exact ⟨rfl, rfl⟩
theorem mixB_bd (fs ts : List Int) (h : mixB fs ts = true) : (1 ≤ fs.length ∧ fs.length ≤ 64) ∧ ts.length = fs.length ∧ ∀ j, j < fs.length → (0 ≤ fs.getD j 0 ∧ fs.getD j 0 ≤ 100000) ∧ (0 ≤ ts.getD j 0 ∧ ts.getD j 0 ≤ 18000) := by
  unfold mixB at h
  simp only [Bool.and_eq_true, inB_iff, decide_eq_true_eq] at h
  obtain ⟨a, b, c, d⟩ := h
  rw [allIn_iff _ _ _ (by omega)] at c d
  exact ⟨by omega, b, fun j hj => ⟨c j hj, d j (by omega)⟩⟩
theorem cells_getD {w : World} {A : Option Addr} {xs : List Int} (h : CellsAt w A (intsV xs)) (h0 : 0 < xs.length) : ∃ b o, A = some ⟨b, o, none⟩ ∧ b < w.heap.size ∧ ∀ j, j < xs.length → w.cell? ⟨b, o + j, none⟩ = some (.int .i64 (xs.getD j 0)) := by
  have hl := h
  obtain ⟨b, o, rfl, hc⟩ := h (by rw [intsV_length]; exact h0)
  refine ⟨b, o, rfl, CellsAt.lies hl (by rw [intsV_length]; exact h0), fun j hj => ?_⟩
  rw [hc j (by rw [intsV_length]; exact hj), intsV_at _ _ hj]
  simp [List.getD, hj]
theorem oneIntAt (n : Nat) (lo hi a : Int) (w : World) (t : TypeId) (hn : n = w.heap.size) (h : lo ≤ hi) :
    Calls Try.prog 80 #[.int .i64 lo, .int .i64 hi, .slice (some ⟨n, 0, none⟩) 1 1] (w.alloc (.cells #[.int .i64 a] t))
      fun e w' => e = .returned (.bool (inB a lo hi)) ∧ Below w.heap.size w w' := by
  subst hn
  exact (withinInt_one lo hi a w t h).mono fun _ _ ⟨he, hw⟩ => ⟨he, hw ▸ bal (Below.refl _ _) _⟩

theorem drawn_belowW {w w' : World} (h : Drawn w w') : Below w.heap.size w w' := by
  obtain ⟨n, rfl⟩ := h
  exact below_drewN (Below.refl _ _) _
theorem mixed_any (bA oA c bB oB d n : Nat) (fs ts : List Int) (w : World) (cA : ∀ j, j < n → w.cell? ⟨bA, oA + j, none⟩ = some (.int .i64 (fs.getD j 0))) (cB : ∀ j, j < n → w.cell? ⟨bB, oB + j, none⟩ = some (.int .i64 (ts.getD j 0))) (hn64 : n ≤ 64)
    (hbd : ∀ j, j < n → (0 ≤ fs.getD j 0 ∧ fs.getD j 0 ≤ 100000) ∧ (0 ≤ ts.getD j 0 ∧ ts.getD j 0 ≤ 18000)) :
    Calls Try.prog 81 #[.slice (some ⟨bA, oA, none⟩) n c, .slice (some ⟨bB, oB, none⟩) n d] w fun e w' => e = .returned (.tuple #[.int .i64 (nearZ (mixH fs ts n) (mixW fs n)), .bool (decide (0 < mixW fs n))]) ∧ Drawn w w' := by
  have CA := Lib.hid cA
  have CB := Lib.hid cB
  have HBD := Lib.hid hbd
  clear cA cB hbd
  go_enter Try.func81, Try.ntmps81
  go_wp2
  go_loopw [6, 7, 12] (fun x y i wr => ∃ k : Nat, k ≤ n ∧ i = .int .i64 k ∧ x = .int .i64 (mixH fs ts k) ∧ y = .int .i64 (mixW fs k) ∧ Drawn w wr) (fun _ _ i _ => n - (intOf i).toNat)
  case atStart => exact ⟨0, Nat.zero_le _, rfl, rfl, rfl, Drawn.rfl' _⟩
  case round =>
    obtain ⟨k, hk, rfl, rfl, rfl, ⟨nr, rfl⟩⟩ := hrel
    by_cases hlt : k < n
    · have g1 := CA.out k hlt
      have g2 := CB.out k hlt
      obtain ⟨⟨m0, m1⟩, ⟨m2, m3⟩⟩ := mix_bd fs ts k (fun j hj => HBD.out j (by omega))
      obtain ⟨⟨f0, f1⟩, ⟨t0, t1⟩⟩ := HBD.out k hlt
      have mm := mul_range _ _ 100000 18000 f0 f1 t0 t1
      have hs1 : Hid (mixH fs ts (k + 1) = mixH fs ts k + fs.getD k 0 * ts.getD k 0) := Lib.hid rfl
      have hs2 : Hid (mixW fs (k + 1) = mixW fs k + fs.getD k 0) := Lib.hid rfl
      generalize fs.getD k 0 = x at *
      generalize ts.getD k 0 = y at *
      generalize mixH fs ts k = v1 at *
      generalize mixW fs k = v2 at *
      go_wp2
      go_roundw
      case rel => exact ⟨k + 1, by omega, by go_num, by rw [hs1.out], by rw [hs2.out], ⟨_, rfl⟩⟩
      case measure => simp [intOf]; omega
    · obtain rfl : k = n := by omega
      obtain ⟨⟨m0, m1⟩, ⟨m2, m3⟩⟩ := mix_bd fs ts k (fun j hj => HBD.out j (by omega))
      have HNE := Lib.hid (fun wx => nearestZ_any (mixH fs ts k) (mixW fs k) wx (by omega) (by omega) (by omega) (by omega))
      go_wp2_with fail
      refine (HNE.out _).mono ?_
      rintro e w1 ⟨rfl, ⟨k1, rfl⟩⟩
      go_wp2
      go_ret2
      exact ⟨rfl, ⟨_, rfl⟩⟩

set_option maxHeartbeats 1600000 in
theorem implMixWater_any (A B : Option Addr) (c d : Nat) (fs ts : List Int) (w : World) (hA : CellsAt w A (intsV fs)) (hB : CellsAt w B (intsV ts)) (hf : fs.length ≤ 1048576) (ht : ts.length ≤ 1048576) :
    Calls Try.prog 28 #[.slice A fs.length c, .slice B ts.length d] w fun e w' => e = .returned (.tuple #[.int .i64 (mixV fs ts), .int .i64 (mixC fs ts)]) ∧ Below w.heap.size w w' := by
  have hb : Below w.heap.size w w := Below.refl _ _
  by_cases h1 : inB (fs.length : Int) 1 64 = true
  · have k1 := inB_iff.1 h1
    obtain ⟨bA, oA, rfl, lA, cA⟩ := cells_getD hA (by omega)
    by_cases h2 : ts.length = fs.length
    · obtain ⟨bB, oB, rfl, lB, cB⟩ := cells_getD hB (by omega)
      rw [h2]
      have hWA := fun wx (hx : Below w.heap.size w wx) => within64_any 0 100000 bA oA c fs wx (by omega) (fun j hj => (hx.cell (p := ⟨bA, oA + j, none⟩) lA).trans (cA j hj))
      have hWB := fun wx (hx : Below w.heap.size w wx) => within64_any 0 18000 bB oB d ts wx (by omega) (fun j hj => (hx.cell (p := ⟨bB, oB + j, none⟩) lB).trans (cB j hj))
      rw [h2] at hWB
      have HWA := Lib.hid hWA
      have HWB := Lib.hid hWB
      have CA := Lib.hid cA
      have CB := Lib.hid cB
      have H2 := Lib.hid h2
      clear hWA hWB cA cB hA hB
      by_cases h3 : allIn 0 100000 fs = true
      · by_cases h4 : allIn 0 18000 ts = true
        · have hm : mixB fs ts = true := by unfold mixB; simp [h1, h2, h3, h4]
          have HB := Lib.hid (mixB_bd fs ts hm)
          have HV : Hid (mixW fs fs.length = 0 → mixV fs ts = 0 ∧ mixC fs ts = 6) := Lib.hid (mix_none fs ts hm)
          have HY : Hid (mixW fs fs.length ≠ 0 → mixV fs ts = nearI (mixH fs ts fs.length) (mixW fs fs.length) ∧ mixC fs ts = 0) := Lib.hid (mix_yes fs ts hm)
          have hN := mix_bd fs ts fs.length (mixB_bd fs ts hm).2.2
          clear h2 hm
          have hn64 : fs.length ≤ 64 := by omega
          have hn1 : 1 ≤ fs.length := by omega
          generalize mixV fs ts = V at *
          generalize mixC fs ts = C at *
          generalize hlen : fs.length = n at *
          clear hlen
          go_enter Try.func28, Try.ntmps28
          go_wp2_with (first | (go_at_call 80; (with_reducible refine (oneIntAt _ _ _ _ _ _ ?hn (by omega)).mono ?_); (case hn => simp); rintro e w' ⟨rfl, hb'⟩; have hb := bnext hb hb') | (go_at_call 46; (with_reducible refine (HWA.out _ hb).mono ?_); rintro e w' ⟨rfl, rfl⟩) | (go_at_call 46; (with_reducible refine (HWB.out _ hb).mono ?_); rintro e w' ⟨rfl, rfl⟩))
          have HMX := Lib.hid (fun wx (hx : Below w.heap.size w wx) => mixed_any bA oA c bB oB d n fs ts wx (fun j hj => (hx.cell (p := ⟨bA, oA + j, none⟩) lA).trans (CA.out j hj)) (fun j hj => (hx.cell (p := ⟨bB, oB + j, none⟩) lB).trans (CB.out j (by rw [H2.out]; exact hj))) hn64 HB.out.2.2)
          by_cases hw : mixW fs n = 0
          · have hz : decide (0 < mixW fs n) = false := by simp; omega
            rw [hz] at HMX
            have HW := Lib.hid hw
            clear hw hz
            refine (HMX.out _ hb).mono ?_
            rintro e w9 ⟨rfl, hd⟩
            have hb := bnext hb (drawn_belowW hd)
            go_wp2
            go_ret2
            exact ⟨by rw [(HV.out HW.out).1, (HV.out HW.out).2]; rfl, hb⟩
          · have hz : decide (0 < mixW fs n) = true := by simp; omega
            have hnz : nearZ (mixH fs ts n) (mixW fs n) = nearI (mixH fs ts n) (mixW fs n) := by unfold nearZ; rw [if_neg hw]
            rw [hz, hnz] at HMX
            have HW := Lib.hid hw
            clear hw hz hnz
            refine (HMX.out _ hb).mono ?_
            rintro e w9 ⟨rfl, hd⟩
            have hb := bnext hb (drawn_belowW hd)
            go_wp2
            go_ret2
            exact ⟨by rw [(HY.out HW.out).1, (HY.out HW.out).2]; rfl, hb⟩
        · have h4' : allIn 0 18000 ts = false := by simpa using h4
          obtain ⟨hv, hc⟩ := mix_no fs ts (by unfold mixB; rw [h4']; simp)
          rw [hv, hc]
          clear hv hc h2
          generalize hlen : fs.length = n at *
          clear hlen
          go_enter Try.func28, Try.ntmps28
          go_wp2_with (first | (go_at_call 80; (with_reducible refine (oneIntAt _ _ _ _ _ _ ?hn (by omega)).mono ?_); (case hn => simp); rintro e w' ⟨rfl, hb'⟩; have hb := bnext hb hb') | (go_at_call 46; (with_reducible refine (HWA.out _ hb).mono ?_); rintro e w' ⟨rfl, rfl⟩) | (go_at_call 46; (with_reducible refine (HWB.out _ hb).mono ?_); rintro e w' ⟨rfl, rfl⟩))
          go_ret2
          exact ⟨rfl, hb⟩
      · have h3' : allIn 0 100000 fs = false := by simpa using h3
        obtain ⟨hv, hc⟩ := mix_no fs ts (by unfold mixB; rw [h3']; simp)
        rw [hv, hc]
        clear hv hc h2
        generalize hlen : fs.length = n at *
        clear hlen
        go_enter Try.func28, Try.ntmps28
        go_wp2_with (first | (go_at_call 80; (with_reducible refine (oneIntAt _ _ _ _ _ _ ?hn (by omega)).mono ?_); (case hn => simp); rintro e w' ⟨rfl, hb'⟩; have hb := bnext hb hb') | (go_at_call 46; (with_reducible refine (HWA.out _ hb).mono ?_); rintro e w' ⟨rfl, rfl⟩))
        go_ret2
        exact ⟨rfl, hb⟩
    · have h2d : decide (ts.length = fs.length) = false := by simpa using h2
      have h2a : (ts.length == fs.length) = false := by simpa using h2
      have h2b : ((ts.length : Int) != (fs.length : Int)) = true := by simp; omega
      have h2c : (ts.length != fs.length) = true := by simpa using h2
      obtain ⟨hv, hc⟩ := mix_no fs ts (by unfold mixB; simp [h2])
      rw [hv, hc]
      clear hv hc
      have H2 := Lib.hid h2
      clear h2
      go_enter Try.func28, Try.ntmps28
      go_wp2_with ((go_at_call 80; (with_reducible refine (oneIntAt _ _ _ _ _ _ ?hn (by omega)).mono ?_); (case hn => simp); rintro e w' ⟨rfl, hb'⟩; have hb := bnext hb hb'))
      go_ret2
      exact ⟨rfl, hb⟩
  · have h1' : inB (fs.length : Int) 1 64 = false := by simpa using h1
    obtain ⟨hv, hc⟩ := mix_no fs ts (by unfold mixB; simp [h1'])
    rw [hv, hc]
    clear hv hc
    
    go_enter Try.func28, Try.ntmps28
    go_wp2_with ((go_at_call 80; (with_reducible refine (oneIntAt _ _ _ _ _ _ ?hn (by omega)).mono ?_); (case hn => simp); rintro e w' ⟨rfl, hb'⟩; have hb := bnext hb hb'))
    go_ret2
    exact ⟨rfl, hb⟩

end Go.Proofs.Ytgdafgnjaogmeab
