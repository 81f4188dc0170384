/-
  MixWater of both sides.
-/
import Derived.Test.YtjabcoanpinpiaaW3
import Derived.Test.YtjabcoanpinpiaaM2
namespace Go.Proofs.Ytjabcoanpinpiaa
open Go.ChangeShapes Go.WideShapes Go.ChangeAt Go.RowKit
set_option linter.unusedVariables false


/-- heat and water of the first flows -/
def mixH (fs ts : List Int) : Nat → Int
  | 0 => 0
  | k + 1 => mixH fs ts k + fs.getD k 0 * ts.getD k 0
def mixW (fs : List Int) : Nat → Int
  | 0 => 0
  | k + 1 => mixW fs k + fs.getD k 0
theorem mix_bd (fs ts : List Int) (k : Nat) (h : ∀ j, j < k → (0 ≤ fs.getD j 0 ∧ fs.getD j 0 ≤ 100000) ∧ (0 ≤ ts.getD j 0 ∧ ts.getD j 0 ≤ 18000)) :
    (0 ≤ mixH fs ts k ∧ mixH fs ts k ≤ k * 1800000000) ∧ (0 ≤ mixW fs k ∧ mixW fs k ≤ k * 100000) := by
  induction k with
  | zero => exact ⟨⟨Int.le_refl _, Int.le_refl _⟩, ⟨Int.le_refl _, Int.le_refl _⟩⟩
  | succ k ih =>
    obtain ⟨⟨a, b⟩, ⟨c, d⟩⟩ := ih fun j hj => h j (by omega)
    obtain ⟨⟨f0, f1⟩, ⟨t0, t1⟩⟩ := h k (by omega)
    have m := mul_range _ _ 100000 18000 f0 f1 t0 t1
    unfold mixH mixW
    constructor <;> constructor <;> omega
theorem allIn_iff (lo hi : Int) (l : List Int) (h : lo ≤ hi) : allIn lo hi l = true ↔ ∀ j, j < l.length → lo ≤ l.getD j 0 ∧ l.getD j 0 ≤ hi := by
  unfold allIn
  rw [List.all_eq_true]
  constructor
  · intro k j hj
    have := k l[j] (List.getElem_mem hj)
    rw [decide_eq_true_eq, clampI_eq lo hi _ h] at this
    simpa [List.getD, hj] using this
  · intro k x hx
    obtain ⟨j, hj, rfl⟩ := List.getElem_of_mem hx
    have := k j hj
    rw [decide_eq_true_eq, clampI_eq lo hi _ h]
    simpa [List.getD, hj] using this
/-- the lists of MixWater are as stated -/
def mixB (fs ts : List Int) : Bool := inB fs.length 1 64 && (decide (ts.length = fs.length) && (allIn 0 100000 fs && allIn 0 18000 ts))
def mixV (fs ts : List Int) : Int := if mixB fs ts = true ∧ mixW fs fs.length ≠ 0 then nearI (mixH fs ts fs.length) (mixW fs fs.length) else 0
def mixC (fs ts : List Int) : Int := if mixB fs ts = true then (if mixW fs fs.length = 0 then 6 else 0) else 2
theorem mix_no (fs ts : List Int) (h : mixB fs ts = false) : mixV fs ts = 0 ∧ mixC fs ts = 2 := by
  unfold mixV mixC
  rw [h]
  simp
theorem mix_none (fs ts : List Int) (h : mixB fs ts = true) (hw : mixW fs fs.length = 0) : mixV fs ts = 0 ∧ mixC fs ts = 6 := by
  unfold mixV mixC
  rw [h, hw]
  simp
theorem mix_yes (fs ts : List Int) (h : mixB fs ts = true) (hw : mixW fs fs.length ≠ 0) : mixV fs ts = nearI (mixH fs ts fs.length) (mixW fs fs.length) ∧ mixC fs ts = 0 := by
  unfold mixV mixC
  rw [if_pos ⟨h, hw⟩, if_pos h, if_neg hw]
  exact ⟨rfl, rfl⟩
theorem mixB_bd (fs ts : List Int) (h : mixB fs ts = true) : (1 ≤ fs.length ∧ fs.length ≤ 64) ∧ ts.length = fs.length ∧ ∀ j, j < fs.length → (0 ≤ fs.getD j 0 ∧ fs.getD j 0 ≤ 100000) ∧ (0 ≤ ts.getD j 0 ∧ ts.getD j 0 ≤ 18000) := by
  unfold mixB at h
  simp only [Bool.and_eq_true, inB_iff, decide_eq_true_eq] at h
  obtain ⟨a, b, c, d⟩ := h
  rw [allIn_iff _ _ _ (by omega)] at c d
  exact ⟨by omega, b, fun j hj => ⟨c j hj, d j (by omega)⟩⟩
theorem cells_getD {w : World} {A : Option Addr} {xs : List Int} (h : CellsAt w A (intsV xs)) (h0 : 0 < xs.length) : ∃ b o, A = some ⟨b, o, none⟩ ∧ b < w.heap.size ∧ ∀ j, j < xs.length → w.cell? ⟨b, o + j, none⟩ = some (.int .i64 (xs.getD j 0)) := by
  have hl := h
  obtain ⟨b, o, rfl, hc⟩ := h (by rw [intsV_length]; exact h0)
  refine ⟨b, o, rfl, CellsAt.lies hl (by rw [intsV_length]; exact h0), fun j hj => ?_⟩
  rw [hc j (by rw [intsV_length]; exact hj), intsV_at _ _ hj]
  simp [List.getD, hj]
theorem oneIntAt (n : Nat) (lo hi a : Int) (w : World) (t : TypeId) (hn : n = w.heap.size) (h : lo ≤ hi) :
    Calls Try.prog 65 #[.int .i64 lo, .int .i64 hi, .slice (some ⟨n, 0, none⟩) 1 1] (w.alloc (.cells #[.int .i64 a] t))
      fun e w' => e = .returned (.bool (inB a lo hi)) ∧ Below w.heap.size w w' := by
  subst hn
  exact (withinInt_one lo hi a w t h).mono fun _ _ ⟨he, hw⟩ => ⟨he, hw ▸ bal (Below.refl _ _) _⟩

set_option maxHeartbeats 1600000 in
theorem implMixWater_any (A B : Option Addr) (c d : Nat) (fs ts : List Int) (w : World) (hA : CellsAt w A (intsV fs)) (hB : CellsAt w B (intsV ts)) (hf : fs.length ≤ 1048576) (ht : ts.length ≤ 1048576) :
    Calls Try.prog 24 #[.slice A fs.length c, .slice B ts.length d] w fun e w' => e = .returned (.tuple #[.int .i64 (mixV fs ts), .int .i64 (mixC fs ts)]) ∧ Below w.heap.size w w' := by
  have hb : Below w.heap.size w w := Below.refl _ _
  by_cases h1 : inB (fs.length : Int) 1 64 = true
  · have k1 := inB_iff.1 h1
    obtain ⟨bA, oA, rfl, lA, cA⟩ := cells_getD hA (by omega)
    by_cases h2 : ts.length = fs.length
    · obtain ⟨bB, oB, rfl, lB, cB⟩ := cells_getD hB (by omega)
      rw [h2]
      have hWA := fun wx (hx : Below w.heap.size w wx) => within64_any 0 100000 bA oA c fs wx (by omega) (fun j hj => (hx.cell (p := ⟨bA, oA + j, none⟩) lA).trans (cA j hj))
      have hWB := fun wx (hx : Below w.heap.size w wx) => within64_any 0 18000 bB oB d ts wx (by omega) (fun j hj => (hx.cell (p := ⟨bB, oB + j, none⟩) lB).trans (cB j hj))
      rw [h2] at hWB
      have HWA := Lib.hid hWA
      have HWB := Lib.hid hWB
      have CA := Lib.hid cA
      have CB := Lib.hid cB
      have H2 := Lib.hid h2
      clear hWA hWB cA cB hA hB
      by_cases h3 : allIn 0 100000 fs = true
      · by_cases h4 : allIn 0 18000 ts = true
        · have hm : mixB fs ts = true := by unfold mixB; simp [h1, h2, h3, h4]
          have HB := Lib.hid (mixB_bd fs ts hm)
          have HV : Hid (mixW fs fs.length = 0 → mixV fs ts = 0 ∧ mixC fs ts = 6) := Lib.hid (mix_none fs ts hm)
          have HY : Hid (mixW fs fs.length ≠ 0 → mixV fs ts = nearI (mixH fs ts fs.length) (mixW fs fs.length) ∧ mixC fs ts = 0) := Lib.hid (mix_yes fs ts hm)
          have hN := mix_bd fs ts fs.length (mixB_bd fs ts hm).2.2
          clear h2 hm
          have hn64 : fs.length ≤ 64 := by omega
          have hn1 : 1 ≤ fs.length := by omega
          generalize mixV fs ts = V at *
          generalize mixC fs ts = C at *
          generalize hlen : fs.length = n at *
          clear hlen
          go_enter Try.func24, Try.ntmps24
          go_wp2_with (first | (go_at_call 65; (with_reducible refine (oneIntAt _ _ _ _ _ _ ?hn (by omega)).mono ?_); (case hn => simp); rintro e w' ⟨rfl, hb'⟩; have hb := bnext hb hb') | (go_at_call 66; (with_reducible refine (HWA.out _ hb).mono ?_); rintro e w' ⟨rfl, rfl⟩) | (go_at_call 66; (with_reducible refine (HWB.out _ hb).mono ?_); rintro e w' ⟨rfl, rfl⟩))
          go_loop [6, 7, 32] (fun x y i => ∃ k : Nat, k ≤ n ∧ i = .int .i64 k ∧ x = .int .i64 (mixH fs ts k) ∧ y = .int .i64 (mixW fs k)) (fun _ _ i => n - (intOf i).toNat)
          case atStart => exact ⟨0, Nat.zero_le _, rfl, rfl, rfl⟩
          case round =>
            obtain ⟨k, hk, rfl, rfl, rfl⟩ := hrel
            by_cases hlt : k < n
            · have g1 := (hb.cell (p := ⟨bA, oA + k, none⟩) lA).trans (CA.out k hlt)
              have g2 := (hb.cell (p := ⟨bB, oB + k, none⟩) lB).trans (CB.out k (by rw [H2.out]; exact hlt))
              obtain ⟨⟨m0, m1⟩, ⟨m2, m3⟩⟩ := mix_bd fs ts k (fun j hj => HB.out.2.2 j (by omega))
              obtain ⟨⟨f0, f1⟩, ⟨t0, t1⟩⟩ := HB.out.2.2 k hlt
              have mm := mul_range _ _ 100000 18000 f0 f1 t0 t1
              have hs1 : Hid (mixH fs ts (k + 1) = mixH fs ts k + fs.getD k 0 * ts.getD k 0) := Lib.hid rfl
              have hs2 : Hid (mixW fs (k + 1) = mixW fs k + fs.getD k 0) := Lib.hid rfl
              generalize fs.getD k 0 = x at *
              generalize ts.getD k 0 = y at *
              generalize mixH fs ts k = v1 at *
              generalize mixW fs k = v2 at *
              go_wp2
              go_round
              case rel => exact ⟨k + 1, by omega, by go_num, by rw [hs1.out], by rw [hs2.out]⟩
              case measure => simp [intOf]; omega
            · obtain rfl : k = n := by omega
              by_cases hw : mixW fs k = 0
              · have z : (mixW fs k == 0) = true := by simpa using hw
                have HW := Lib.hid hw
                clear hw
                go_wp2
                go_ret2
                exact ⟨by rw [(HV.out HW.out).1, (HV.out HW.out).2]; rfl, hb⟩
              · have z : (mixW fs k == 0) = false := by simpa using hw
                have HW := Lib.hid hw
                have HNE := Lib.hid (fun wx => nearest_any (mixH fs ts k) (mixW fs k) wx (by omega) (by omega) (by omega) (by omega) hw)
                clear hw
                go_wp2_with (go_at_call 56; refine (HNE.out _).mono ?_; rintro e w' ⟨rfl, ⟨nq, rfl⟩⟩)
                go_ret2
                exact ⟨by rw [(HY.out HW.out).1, (HY.out HW.out).2]; rfl, below_drewN hb _⟩
        · have h4' : allIn 0 18000 ts = false := by simpa using h4
          obtain ⟨hv, hc⟩ := mix_no fs ts (by unfold mixB; rw [h4']; simp)
          rw [hv, hc]
          clear hv hc h2
          generalize hlen : fs.length = n at *
          clear hlen
          go_enter Try.func24, Try.ntmps24
          go_wp2_with (first | (go_at_call 65; (with_reducible refine (oneIntAt _ _ _ _ _ _ ?hn (by omega)).mono ?_); (case hn => simp); rintro e w' ⟨rfl, hb'⟩; have hb := bnext hb hb') | (go_at_call 66; (with_reducible refine (HWA.out _ hb).mono ?_); rintro e w' ⟨rfl, rfl⟩) | (go_at_call 66; (with_reducible refine (HWB.out _ hb).mono ?_); rintro e w' ⟨rfl, rfl⟩))
          go_ret2
          exact ⟨rfl, hb⟩
      · have h3' : allIn 0 100000 fs = false := by simpa using h3
        obtain ⟨hv, hc⟩ := mix_no fs ts (by unfold mixB; rw [h3']; simp)
        rw [hv, hc]
        clear hv hc h2
        generalize hlen : fs.length = n at *
        clear hlen
        go_enter Try.func24, Try.ntmps24
        go_wp2_with (first | (go_at_call 65; (with_reducible refine (oneIntAt _ _ _ _ _ _ ?hn (by omega)).mono ?_); (case hn => simp); rintro e w' ⟨rfl, hb'⟩; have hb := bnext hb hb') | (go_at_call 66; (with_reducible refine (HWA.out _ hb).mono ?_); rintro e w' ⟨rfl, rfl⟩))
        go_ret2
        exact ⟨rfl, hb⟩
    · have h2d : decide (ts.length = fs.length) = false := by simpa using h2
      have h2a : (ts.length == fs.length) = false := by simpa using h2
      have h2b : ((ts.length : Int) != (fs.length : Int)) = true := by simp; omega
      have h2c : (ts.length != fs.length) = true := by simpa using h2
      obtain ⟨hv, hc⟩ := mix_no fs ts (by unfold mixB; simp [h2])
      rw [hv, hc]
      clear hv hc
      have H2 := Lib.hid h2
      clear h2
      go_enter Try.func24, Try.ntmps24
      go_wp2_with ((go_at_call 65; (with_reducible refine (oneIntAt _ _ _ _ _ _ ?hn (by omega)).mono ?_); (case hn => simp); rintro e w' ⟨rfl, hb'⟩; have hb := bnext hb hb'))
      go_ret2
      exact ⟨rfl, hb⟩
  · have h1' : inB (fs.length : Int) 1 64 = false := by simpa using h1
    obtain ⟨hv, hc⟩ := mix_no fs ts (by unfold mixB; simp [h1'])
    rw [hv, hc]
    clear hv hc
    
    go_enter Try.func24, Try.ntmps24
    go_wp2_with ((go_at_call 65; (with_reducible refine (oneIntAt _ _ _ _ _ _ ?hn (by omega)).mono ?_); (case hn => simp); rintro e w' ⟨rfl, hb'⟩; have hb := bnext hb hb'))
    go_ret2
    exact ⟨rfl, hb⟩

set_option maxHeartbeats 1600000 in
theorem specMixWater_any (A B : Option Addr) (c d : Nat) (fs ts : List Int) (w : World) (hA : CellsAt w A (intsV fs)) (hB : CellsAt w B (intsV ts)) (hf : fs.length ≤ 1048576) (ht : ts.length ≤ 1048576) :
    Calls Try.prog 44 #[.slice A fs.length c, .slice B ts.length d] w fun e w' => e = .returned (.tuple #[.int .i64 (mixV fs ts), .int .i64 (mixC fs ts)]) ∧ Below w.heap.size w w' := by
  by_cases h1 : 1 ≤ fs.length ∧ fs.length ≤ 64
  · have h1' : inB (fs.length : Int) 1 64 = true := inB_true (by omega)
    obtain ⟨bA, oA, rfl, lA, cA⟩ := cells_getD hA (by omega)
    by_cases h2 : ts.length = fs.length
    · obtain ⟨bB, oB, rfl, lB, cB⟩ := cells_getD hB (by omega)
      rw [h2]
      have CA := Lib.hid cA
      have CB := Lib.hid cB
      have HF : Hid (mixB fs ts = false → mixV fs ts = 0 ∧ mixC fs ts = 2) := Lib.hid (mix_no fs ts)
      have HV : Hid (mixB fs ts = true → mixW fs fs.length = 0 → mixV fs ts = 0 ∧ mixC fs ts = 6) := Lib.hid (mix_none fs ts)
      have HY : Hid (mixB fs ts = true → mixW fs fs.length ≠ 0 → mixV fs ts = nearI (mixH fs ts fs.length) (mixW fs fs.length) ∧ mixC fs ts = 0) := Lib.hid (mix_yes fs ts)
      have HB1 : Hid (∀ k, k < fs.length → ¬ ((0 ≤ fs.getD k 0 ∧ fs.getD k 0 ≤ 100000) ∧ (0 ≤ ts.getD k 0 ∧ ts.getD k 0 ≤ 18000)) → mixB fs ts = false) := Lib.hid (fun k hk hno => by
        cases hh : mixB fs ts with
        | false => rfl
        | true => exact absurd ((mixB_bd fs ts hh).2.2 k hk) hno)
      have HB2 : Hid ((∀ j, j < fs.length → (0 ≤ fs.getD j 0 ∧ fs.getD j 0 ≤ 100000) ∧ (0 ≤ ts.getD j 0 ∧ ts.getD j 0 ≤ 18000)) → mixB fs ts = true) := Lib.hid (fun h => by
        unfold mixB
        rw [h1', (allIn_iff _ _ _ (by omega)).2 (fun j hj => (h j hj).1), (allIn_iff _ _ _ (by omega)).2 (fun j hj => (h j (by omega)).2)]
        simp [h2])
      have H2 := Lib.hid h2
      clear cA cB hA hB h2 h1'
      obtain ⟨hn1, hn64⟩ := h1
      generalize mixV fs ts = V at *
      generalize mixC fs ts = C at *
      generalize mixB fs ts = Bo at *
      generalize hlen : fs.length = n at *
      clear hlen
      go_enter Try.func44, Try.ntmps44
      go_wp2
      go_loopw [6, 7, 8] (fun x y i wr => ∃ k : Nat, k ≤ n ∧ i = .int .i64 k ∧ x = .int .i64 (mixH fs ts k) ∧ y = .int .i64 (mixW fs k) ∧ Drawn w wr ∧ Hid (∀ j, j < k → (0 ≤ fs.getD j 0 ∧ fs.getD j 0 ≤ 100000) ∧ (0 ≤ ts.getD j 0 ∧ ts.getD j 0 ≤ 18000))) (fun _ _ i _ => n - (intOf i).toNat)
      case atStart => exact ⟨0, Nat.zero_le _, rfl, rfl, rfl, Drawn.rfl' _, Lib.hid fun j hj => by omega⟩
      case round =>
        obtain ⟨k, hk, rfl, rfl, rfl, ⟨nd, rfl⟩, I⟩ := hrel
        by_cases hlt : k < n
        · have g1 := CA.out k hlt
          have g2 := CB.out k (by rw [H2.out]; exact hlt)
          obtain ⟨⟨m0, m1⟩, ⟨m2, m3⟩⟩ := mix_bd fs ts k I.out
          have hs1 : Hid (mixH fs ts (k + 1) = mixH fs ts k + fs.getD k 0 * ts.getD k 0) := Lib.hid rfl
          have hs2 : Hid (mixW fs (k + 1) = mixW fs k + fs.getD k 0) := Lib.hid rfl
          have hb1 := Lib.hid (HB1.out k hlt)
          have hnx : Hid ((0 ≤ fs.getD k 0 ∧ fs.getD k 0 ≤ 100000) ∧ (0 ≤ ts.getD k 0 ∧ ts.getD k 0 ≤ 18000) → ∀ j, j < k + 1 → (0 ≤ fs.getD j 0 ∧ fs.getD j 0 ≤ 100000) ∧ (0 ≤ ts.getD j 0 ∧ ts.getD j 0 ≤ 18000)) := Lib.hid (fun h j hj => by
            by_cases e : j < k
            · exact I.out j e
            · obtain rfl : j = k := by omega
              exact h)
          clear I
          generalize hx : fs.getD k 0 = x at *
          generalize hy : ts.getD k 0 = y at *
          have HXY := Lib.hid (And.intro hx hy)
          clear hx hy
          generalize mixH fs ts k = v1 at *
          generalize mixW fs k = v2 at *
          by_cases c1 : inB x 0 100000 = true
          · by_cases c2 : inB y 0 18000 = true
            · have k1 := inB_iff.1 c1
              have k2 := inB_iff.1 c2
              have mm := mul_range x y 100000 18000 k1.1 k1.2 k2.1 k2.2
              have ew1 : IntKind.i64.wrap (x * y) = x * y := IntWalk.i64_in _ (by omega)
              have ew2 : IntKind.i64.wrap (v1 + x * y) = v1 + x * y := IntWalk.i64_in _ (by omega)
              have ew3 : IntKind.i64.wrap (v2 + x) = v2 + x := IntWalk.i64_in _ (by omega)
              go_wp2_with (first | (go_at_call 77; refine (l02Flow_any _ _).mono ?_; rintro e w' ⟨rfl, rfl⟩) | (go_at_call 70; refine (l02Degrees_any _ _).mono ?_; rintro e w' ⟨rfl, rfl⟩))
              go_quiet (fail)
              go_wp2
              go_roundw
              case rel => exact ⟨k + 1, by omega, by go_num, by rw [hs1.out], by rw [hs2.out], ⟨_, rfl⟩, Lib.hid (hnx.out ⟨k1, k2⟩)⟩
              case measure => simp [intOf]; omega
            · have c2' : inB y 0 18000 = false := by simpa using c2
              have hno := hb1.out (fun h => c2 (inB_true h.2))
              have HNO := Lib.hid (HF.out hno)
              clear hno c2
              go_wp2_with (first | (go_at_call 77; refine (l02Flow_any _ _).mono ?_; rintro e w' ⟨rfl, rfl⟩) | (go_at_call 70; refine (l02Degrees_any _ _).mono ?_; rintro e w' ⟨rfl, rfl⟩))
              go_ret2
              exact ⟨by rw [HNO.out.1, HNO.out.2]; rfl, below_drewN (Below.refl _ _) _⟩
          · have c1' : inB x 0 100000 = false := by simpa using c1
            have hno := hb1.out (fun h => c1 (inB_true h.1))
            have HNO := Lib.hid (HF.out hno)
            clear hno c1
            go_wp2_with (first | (go_at_call 77; refine (l02Flow_any _ _).mono ?_; rintro e w' ⟨rfl, rfl⟩) | (go_at_call 70; refine (l02Degrees_any _ _).mono ?_; rintro e w' ⟨rfl, rfl⟩))
            go_ret2
            exact ⟨by rw [HNO.out.1, HNO.out.2]; rfl, below_drewN (Below.refl _ _) _⟩
        · obtain rfl : k = n := by omega
          have hall := HB2.out I.out
          obtain ⟨⟨m0, m1⟩, ⟨m2, m3⟩⟩ := mix_bd fs ts k I.out
          have HALL := Lib.hid hall
          clear hall
          by_cases hw : mixW fs k = 0
          · have z : (mixW fs k == 0) = true := by simpa using hw
            have HW := Lib.hid (HV.out HALL.out hw)
            clear hw
            go_wp2
            go_ret2
            exact ⟨by rw [HW.out.1, HW.out.2]; rfl, below_drewN (Below.refl _ _) _⟩
          · have z : (mixW fs k == 0) = false := by simpa using hw
            have HW := Lib.hid (HY.out HALL.out hw)
            have HNE := Lib.hid (fun wx => l01Div_any (mixH fs ts k) (mixW fs k) wx (by omega) (by omega) (by omega) (by omega) hw)
            clear hw
            go_wp2_with (go_at_call 84; refine (HNE.out _).mono ?_; rintro e w' ⟨rfl, rfl⟩)
            go_ret2
            exact ⟨by rw [HW.out.1, HW.out.2]; rfl, below_drewN (Below.refl _ _) _⟩
    · have h2a : ((ts.length : Int) != (fs.length : Int)) = true := by simp; omega
      have h2c : (ts.length != fs.length) = true := by simpa using h2
      obtain ⟨hv, hc⟩ := mix_no fs ts (by unfold mixB; simp [h2])
      rw [hv, hc]
      clear hv hc
      have H2 := Lib.hid h2
      clear h2
      obtain ⟨hn1, hn64⟩ := h1
      go_enter Try.func44, Try.ntmps44
      go_wp2
      go_ret2
      exact ⟨rfl, Below.refl _ _⟩
  · obtain ⟨hv, hc⟩ := mix_no fs ts (by unfold mixB; rw [inB_false (by omega)]; simp)
    rw [hv, hc]
    clear hv hc
    by_cases hlo : fs.length < 1
    · go_enter Try.func44, Try.ntmps44
      go_wp2
      go_ret2
      exact ⟨rfl, Below.refl _ _⟩
    · have hlo' : 1 ≤ fs.length := by omega
      have hhi : 64 < fs.length := by omega
      clear h1
      go_enter Try.func44, Try.ntmps44
      go_wp2
      go_ret2
      exact ⟨rfl, Below.refl _ _⟩

end Go.Proofs.Ytjabcoanpinpiaa
