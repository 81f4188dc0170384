/-
  Contracts of the small numeric helpers of chapter 1: size, clamp, l00In.
-/
import Derived.Test.YthmnfobhgeamiaaG0
namespace Go.Proofs.Ythmnfobhgeamiaa
open Go.ChangeShapes Go.WideShapes Go.ChangeAt Go.RowKit

theorem wrap_neg (n : Int) (h0 : n < 0) (h1 : -9223372036854775808 ≤ n) : IntKind.u64.wrap (-IntKind.u64.wrap n) = -n := by
  simp only [IntKind.wrap, IntKind.signed, IntKind.bits]
  simp
  omega

theorem size_neg (n : Int) (w : World) (h0 : n < 0) (h1 : -9223372036854775808 ≤ n) :
    Calls Try.prog 80 #[.int .i64 n] w fun e w' => e = .returned (.int .u64 (-n)) ∧ w = w' := by
  have hb : (n : Int) < 0 := h0
  go_enter Try.func80, Try.ntmps80
  go_wp2
  go_ret
  exact ⟨congrArg (fun k => Ending.returned (.int .u64 k)) (wrap_neg n h0 h1), rfl⟩

theorem size_pos (n : Int) (w : World) (h0 : 0 ≤ n) (h1 : n ≤ 9223372036854775807) :
    Calls Try.prog 80 #[.int .i64 n] w fun e w' => e = .returned (.int .u64 n) ∧ w = w' := by
  go_enter Try.func80, Try.ntmps80
  go_wp2
  go_ret
  exact ⟨rfl, rfl⟩

/-- the absolute value; a definition of its own, so that the walk's simp leaves it alone -/
def absI (n : Int) : Int := if n < 0 then -n else n
theorem absI_bd (n K : Int) (h0 : -K ≤ n) (h1 : n ≤ K) : 0 ≤ absI n ∧ absI n ≤ K := by unfold absI; split <;> omega
theorem absI_nat (n : Int) : absI n = (n.natAbs : Int) := by unfold absI; split <;> omega

theorem size_any (n : Int) (w : World) (h0 : -9223372036854775808 ≤ n) (h1 : n ≤ 9223372036854775807) :
    Calls Try.prog 80 #[.int .i64 n] w fun e w' => e = .returned (.int .u64 (absI n)) ∧ w = w' := by
  by_cases h : n < 0
  · have e : absI n = -n := if_pos h
    rw [e]; exact size_neg n w h h0
  · have e : absI n = n := if_neg h
    rw [e]; exact size_pos n w (by omega) h1

def clampI (lo hi v : Int) : Int := max lo (min v hi)
theorem clampI_def (lo hi v : Int) : clampI lo hi v = if lo < (if hi < v then hi else v) then (if hi < v then hi else v) else lo := by
  unfold clampI; omega

theorem clamp_any (lo hi v : Int) (w : World)  :
    Calls Try.prog 98 #[.int .i64 lo, .int .i64 hi, .int .i64 v] w fun e w' => e = .returned (.int .i64 (clampI lo hi v)) ∧ w = w' := by
  have H := Lib.hid (clampI_def lo hi v)
  go_enter Try.func98, Try.ntmps98
  go_wp2
  all_goals go_ret
  all_goals (rw [H.out]; refine ⟨?_, rfl⟩)
  all_goals simp [*]
  all_goals omega

/-- a number within two bounds -/
def inB (n lo hi : Int) : Bool := decide (lo ≤ n ∧ n ≤ hi)
theorem inB_true {n lo hi : Int} (h : lo ≤ n ∧ n ≤ hi) : inB n lo hi = true := by unfold inB; simpa using h
theorem inB_false {n lo hi : Int} (h : ¬ (lo ≤ n ∧ n ≤ hi)) : inB n lo hi = false := by unfold inB; exact decide_eq_false h
theorem inB_iff {n lo hi : Int} : inB n lo hi = true ↔ (lo ≤ n ∧ n ≤ hi) := by unfold inB; simp

theorem in_any (n lo hi : Int) (w : World)  :
    Calls Try.prog 53 #[.int .i64 n, .int .i64 lo, .int .i64 hi] w fun e w' => e = .returned (.bool (inB n lo hi)) ∧ w = w' := by
  have H : Hid (inB n lo hi = decide (lo ≤ n ∧ n ≤ hi)) := Lib.hid rfl
  go_enter Try.func53, Try.ntmps53
  go_wp2
  all_goals go_ret
  all_goals (rw [H.out]; refine ⟨?_, rfl⟩)
  all_goals simp [*]
  all_goals omega

theorem clampI_eq (lo hi v : Int) (h : lo ≤ hi) : (v = clampI lo hi v) ↔ (lo ≤ v ∧ v ≤ hi) := by
  unfold clampI; omega

/-- all of some numbers are within two bounds -/
def allIn (lo hi : Int) (l : List Int) : Bool := l.all fun v => decide (lo ≤ v ∧ v ≤ hi)

theorem allIn_take_succ (lo hi : Int) (l : List Int) (k : Nat) (hk : k < l.length) : allIn lo hi (l.take (k + 1)) = (allIn lo hi (l.take k) && decide (lo ≤ l.getD k 0 ∧ l.getD k 0 ≤ hi)) := by
  unfold allIn
  rw [List.take_succ_eq_append_getElem hk, List.all_append]
  simp [hk]

theorem allIn_false (lo hi : Int) (l : List Int) (k : Nat) (hk : k < l.length) (h : ¬ (lo ≤ l.getD k 0 ∧ l.getD k 0 ≤ hi)) : allIn lo hi l = false := by
  unfold allIn
  rw [List.all_eq_false]
  refine ⟨l[k], List.getElem_mem hk, ?_⟩
  have e : l.getD k 0 = l[k] := by simp [List.getD, hk]
  rw [e] at h
  simpa using h

theorem allIn_cons (lo hi : Int) (v : Int) (l : List Int) (_h : lo ≤ hi) : allIn lo hi (v :: l) = (inB v lo hi && allIn lo hi l) := by
  unfold allIn inB
  rw [List.all_cons]
theorem allIn_one (lo hi v : Int) : allIn lo hi [v] = inB v lo hi := by
  unfold allIn inB
  simp
theorem allIn_nil (lo hi : Int) : allIn lo hi [] = true := rfl

theorem within64_any (lo hi : Int) (b off cap : Nat) (zs : List Int) (w : World) (hbig : zs.length ≤ 9223372036854775807)
    (hc : ∀ j, j < zs.length → w.cell? ⟨b, off + j, none⟩ = some (.int .i64 (zs.getD j 0))) :
    Calls Try.prog 48 #[.int .i64 lo, .int .i64 hi, .slice (some ⟨b, off, none⟩) zs.length cap] w fun e w' => e = .returned (.bool (allIn lo hi zs)) ∧ w = w' := by
  go_enter Try.func48, Try.ntmps48
  go_wp2
  go_loop [11] (fun i => ∃ k : Nat, k ≤ zs.length ∧ i = .int .i64 k ∧ allIn lo hi (zs.take k) = true) (fun i => zs.length - (intOf i).toNat)
  case atStart => exact ⟨0, Nat.zero_le _, rfl, by simp [allIn]⟩
  case round =>
    obtain ⟨k, hk, rfl, hall⟩ := hrel
    have Hall := Lib.hid hall
    clear hall
    by_cases hlt : k < zs.length
    · have hcell := hc k hlt
      have hts := allIn_take_succ lo hi zs k hlt
      have hfs := allIn_false lo hi zs k hlt
      generalize zs.getD k 0 = z at *
      clear hc
      have Hts := Lib.hid hts
      have Hfs := Lib.hid hfs
      clear hts hfs
      by_cases h1 : z < lo
      · go_wp2
        go_ret
        exact ⟨by rw [Hfs.out (by omega)]; rfl, rfl⟩
      · by_cases h2 : hi < z
        · go_wp2
          go_ret
          exact ⟨by rw [Hfs.out (by omega)]; rfl, rfl⟩
        · go_wp2
          go_round
          case rel => exact ⟨k + 1, by omega, by go_num, by rw [Hts.out, Hall.out, Bool.true_and]; exact decide_eq_true ⟨by omega, by omega⟩⟩
          case measure => simp [intOf]; omega
    · go_wp2
      go_ret
      exact ⟨by rw [List.take_of_length_le (by omega)] at Hall; rw [Hall.out]; rfl, rfl⟩
end Go.Proofs.Ythmnfobhgeamiaa
