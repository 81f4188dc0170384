/-
  within and clamp at int and byte; one value within; letters and digits.
-/
import Derived.Test.YthmnfobhgeamiaaA1
namespace Go.Proofs.Ythmnfobhgeamiaa
open Go.ChangeShapes Go.WideShapes Go.ChangeAt Go.RowKit

theorem clampInt_any (lo hi v : Int) (w : World)  :
    Calls Try.prog 90 #[.int .i64 lo, .int .i64 hi, .int .i64 v] w fun e w' => e = .returned (.int .i64 (clampI lo hi v)) ∧ w = w' := by
  have H := Lib.hid (clampI_def lo hi v)
  go_enter Try.func90, Try.ntmps90
  go_wp2
  all_goals go_ret
  all_goals (rw [H.out]; refine ⟨?_, rfl⟩)
  all_goals simp [*]
  all_goals omega

theorem withinInt_any (lo hi : Int) (b off cap : Nat) (zs : List Int) (w : World) (hbig : zs.length ≤ 9223372036854775807)
    (hc : ∀ j, j < zs.length → w.cell? ⟨b, off + j, none⟩ = some (.int .i64 (zs.getD j 0))) :
    Calls Try.prog 95 #[.int .i64 lo, .int .i64 hi, .slice (some ⟨b, off, none⟩) zs.length cap] w fun e w' => e = .returned (.bool (allIn lo hi zs)) ∧ w = w' := by
  go_enter Try.func95, Try.ntmps95
  go_wp2
  go_loop [11] (fun i => ∃ k : Nat, k ≤ zs.length ∧ i = .int .i64 k ∧ allIn lo hi (zs.take k) = true) (fun i => zs.length - (intOf i).toNat)
  case atStart => exact ⟨0, Nat.zero_le _, rfl, by simp [allIn]⟩
  case round =>
    obtain ⟨k, hk, rfl, hall⟩ := hrel
    have Hall := Lib.hid hall
    clear hall
    by_cases hlt : k < zs.length
    · have hcell := hc k hlt
      have hts := allIn_take_succ lo hi zs k hlt
      have hfs := allIn_false lo hi zs k hlt
      generalize zs.getD k 0 = z at *
      clear hc
      have Hts := Lib.hid hts
      have Hfs := Lib.hid hfs
      clear hts hfs
      by_cases h1 : z < lo
      · go_wp2
        go_ret
        exact ⟨by rw [Hfs.out (by omega)]; rfl, rfl⟩
      · by_cases h2 : hi < z
        · go_wp2
          go_ret
          exact ⟨by rw [Hfs.out (by omega)]; rfl, rfl⟩
        · go_wp2
          go_round
          case rel => exact ⟨k + 1, by omega, by go_num, by rw [Hts.out, Hall.out, Bool.true_and]; exact decide_eq_true ⟨by omega, by omega⟩⟩
          case measure => simp [intOf]; omega
    · go_wp2
      go_ret
      exact ⟨by rw [List.take_of_length_le (by omega)] at Hall; rw [Hall.out]; rfl, rfl⟩

theorem withinByte_any (lo hi : Int) (b off cap : Nat) (zs : List Int) (w : World) (hbig : zs.length ≤ 9223372036854775807)
    (hc : ∀ j, j < zs.length → w.cell? ⟨b, off + j, none⟩ = some (.int .u8 (zs.getD j 0))) :
    Calls Try.prog 99 #[.int .u8 lo, .int .u8 hi, .slice (some ⟨b, off, none⟩) zs.length cap] w fun e w' => e = .returned (.bool (allIn lo hi zs)) ∧ w = w' := by
  go_enter Try.func99, Try.ntmps99
  go_wp2
  go_loop [11] (fun i => ∃ k : Nat, k ≤ zs.length ∧ i = .int .i64 k ∧ allIn lo hi (zs.take k) = true) (fun i => zs.length - (intOf i).toNat)
  case atStart => exact ⟨0, Nat.zero_le _, rfl, by simp [allIn]⟩
  case round =>
    obtain ⟨k, hk, rfl, hall⟩ := hrel
    have Hall := Lib.hid hall
    clear hall
    by_cases hlt : k < zs.length
    · have hcell := hc k hlt
      have hts := allIn_take_succ lo hi zs k hlt
      have hfs := allIn_false lo hi zs k hlt
      generalize zs.getD k 0 = z at *
      clear hc
      have Hts := Lib.hid hts
      have Hfs := Lib.hid hfs
      clear hts hfs
      by_cases h1 : z < lo
      · go_wp2
        go_ret
        exact ⟨by rw [Hfs.out (by omega)]; rfl, rfl⟩
      · by_cases h2 : hi < z
        · go_wp2
          go_ret
          exact ⟨by rw [Hfs.out (by omega)]; rfl, rfl⟩
        · go_wp2
          go_round
          case rel => exact ⟨k + 1, by omega, by go_num, by rw [Hts.out, Hall.out, Bool.true_and]; exact decide_eq_true ⟨by omega, by omega⟩⟩
          case measure => simp [intOf]; omega
    · go_wp2
      go_ret
      exact ⟨by rw [List.take_of_length_le (by omega)] at Hall; rw [Hall.out]; rfl, rfl⟩

theorem one_cell64 (w : World) (a : Int) (t : TypeId) : ∀ j, j < [a].length → (w.alloc (.cells #[.int .i64 a] t)).cell? ⟨w.heap.size, 0 + j, none⟩ = some (.int .i64 ([a].getD j 0)) := by
  intro j hj
  match j, hj with
  | 0, _ => simp
theorem within64_one (lo hi a : Int) (w : World) (t : TypeId) (h : lo ≤ hi) :
    Calls Try.prog 48 #[.int .i64 lo, .int .i64 hi, .slice (some ⟨w.heap.size, 0, none⟩) 1 1] (w.alloc (.cells #[.int .i64 a] t))
      fun e w' => e = .returned (.bool (inB a lo hi)) ∧ w.alloc (.cells #[.int .i64 a] t) = w' := by
  have e := within64_any lo hi w.heap.size 0 1 [a] (w.alloc (.cells #[.int .i64 a] t)) (by simp) (one_cell64 w a t)
  rw [allIn_cons _ _ _ _ h, allIn_nil, Bool.and_true] at e
  exact e

theorem one_cellInt (w : World) (a : Int) (t : TypeId) : ∀ j, j < [a].length → (w.alloc (.cells #[.int .i64 a] t)).cell? ⟨w.heap.size, 0 + j, none⟩ = some (.int .i64 ([a].getD j 0)) := by
  intro j hj
  match j, hj with
  | 0, _ => simp
theorem withinInt_one (lo hi a : Int) (w : World) (t : TypeId) (h : lo ≤ hi) :
    Calls Try.prog 95 #[.int .i64 lo, .int .i64 hi, .slice (some ⟨w.heap.size, 0, none⟩) 1 1] (w.alloc (.cells #[.int .i64 a] t))
      fun e w' => e = .returned (.bool (inB a lo hi)) ∧ w.alloc (.cells #[.int .i64 a] t) = w' := by
  have e := withinInt_any lo hi w.heap.size 0 1 [a] (w.alloc (.cells #[.int .i64 a] t)) (by simp) (one_cellInt w a t)
  rw [allIn_cons _ _ _ _ h, allIn_nil, Bool.and_true] at e
  exact e

theorem one_cellByte (w : World) (a : Int) (t : TypeId) : ∀ j, j < [a].length → (w.alloc (.cells #[.int .u8 a] t)).cell? ⟨w.heap.size, 0 + j, none⟩ = some (.int .u8 ([a].getD j 0)) := by
  intro j hj
  match j, hj with
  | 0, _ => simp
theorem withinByte_one (lo hi a : Int) (w : World) (t : TypeId) (h : lo ≤ hi) :
    Calls Try.prog 99 #[.int .u8 lo, .int .u8 hi, .slice (some ⟨w.heap.size, 0, none⟩) 1 1] (w.alloc (.cells #[.int .u8 a] t))
      fun e w' => e = .returned (.bool (inB a lo hi)) ∧ w.alloc (.cells #[.int .u8 a] t) = w' := by
  have e := withinByte_any lo hi w.heap.size 0 1 [a] (w.alloc (.cells #[.int .u8 a] t)) (by simp) (one_cellByte w a t)
  rw [allIn_cons _ _ _ _ h, allIn_nil, Bool.and_true] at e
  exact e

theorem isLetter_any (c : Int) (w : World) :
    Calls Try.prog 96 #[.int .u8 c] w fun e w' => e = .returned (.bool (inB c 97 122)) ∧ Below w.heap.size w w' := by
  go_enter Try.func96, Try.ntmps96
  go_wp2_with (go_at_call 99; refine (withinByte_one _ _ _ _ _ (by omega)).mono ?_; rintro e w' ⟨rfl, rfl⟩)
  go_ret
  exact ⟨rfl, (Below.refl _ _).alloc (Nat.le_refl _) _⟩

theorem isDigit_any (c : Int) (w : World) :
    Calls Try.prog 97 #[.int .u8 c] w fun e w' => e = .returned (.bool (inB c 48 57)) ∧ Below w.heap.size w w' := by
  go_enter Try.func97, Try.ntmps97
  go_wp2_with (go_at_call 99; refine (withinByte_one _ _ _ _ _ (by omega)).mono ?_; rintro e w' ⟨rfl, rfl⟩)
  go_ret
  exact ⟨rfl, (Below.refl _ _).alloc (Nat.le_refl _) _⟩

theorem l01Small_any (c : Int) (w : World) :
    Calls Try.prog 93 #[.int .u8 c] w fun e w' => e = .returned (.bool (inB c 97 122)) ∧ w = w' := by
  have H : Hid (inB c 97 122 = decide (97 ≤ c ∧ c ≤ 122)) := Lib.hid rfl
  go_enter Try.func93, Try.ntmps93
  go_wp2
  all_goals go_ret
  all_goals (rw [H.out]; refine ⟨?_, rfl⟩)
  all_goals simp [*]
  all_goals omega

theorem l01Digit_any (c : Int) (w : World) :
    Calls Try.prog 94 #[.int .u8 c] w fun e w' => e = .returned (.bool (inB c 48 57)) ∧ w = w' := by
  have H : Hid (inB c 48 57 = decide (48 ≤ c ∧ c ≤ 57)) := Lib.hid rfl
  go_enter Try.func94, Try.ntmps94
  go_wp2
  all_goals go_ret
  all_goals (rw [H.out]; refine ⟨?_, rfl⟩)
  all_goals simp [*]
  all_goals omega

theorem within64_at1 (lo hi a : Int) (b : Nat) (w : World) (h : lo ≤ hi) (hc : w.cell? ⟨b, 0, none⟩ = some (.int .i64 a)) :
    Calls Try.prog 48 #[.int .i64 lo, .int .i64 hi, .slice (some ⟨b, 0, none⟩) 1 1] w
      fun e w' => e = .returned (.bool (inB a lo hi)) ∧ w = w' := by
  have e := within64_any lo hi b 0 1 [a] w (by simp) (fun j hj => by
    match j, hj with
    | 0, _ => simpa using hc)
  rw [allIn_cons _ _ _ _ h, allIn_nil, Bool.and_true] at e
  exact e
end Go.Proofs.Ythmnfobhgeamiaa
