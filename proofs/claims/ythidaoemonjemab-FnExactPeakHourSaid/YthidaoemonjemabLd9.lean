/-
  ForecastOf of the program.
-/
import Derived.Test.YthidaoemonjemabLd8
namespace Go.Proofs.Ythidaoemonjemab
open Go.ChangeShapes Go.WideShapes Go.ChangeAt Go.RowKit

set_option maxRecDepth 100000
set_option maxHeartbeats 700000
set_option linter.unusedVariables false

/-- a call that returns a new slice of the numbers X, in a block of the type E, and a code -/
def RetICE (E : TypeId) (X : List Int) (C : Int) (w : World) (e : Ending) (w' : World) : Prop :=
  ∃ A c, e = .returned (.tuple #[.slice A X.length c, .int .i64 C]) ∧ w'.ownsRow w.heap.size E 1 (.slice A X.length c) X.length (intsV X) ∧ Below w.heap.size w w'
theorem retICE_nil {E : TypeId} {C : Int} {w w' : World} {e : Ending} (he : e = .returned (.tuple #[.slice none 0 0, .int .i64 C])) (hb : Below w.heap.size w w') : RetICE E [] C w e w' :=
  ⟨none, 0, he, World.ownsRow_nil _ _ _ _, hb⟩
theorem retICE_mk {E : TypeId} {X : List Int} {C : Int} {w w' : World} {A : Option Addr} {n c : Nat} {base : Nat} {e : Ending} (he : e = .returned (.tuple #[.slice A n c, .int .i64 C])) (h : w'.ownsRow base E 1 (.slice A n c) n (intsV X)) (hbase : w.heap.size ≤ base) (hb : Below w.heap.size w w') : RetICE E X C w e w' := by
  have hn := owns_len h
  rw [intsV_length] at hn
  subst hn
  exact ⟨A, c, he, owns_base h hbase, hb⟩
theorem markIntsE_any {E : TypeId} (A : Option Addr) (c n : Nat) (base : Nat) (xs : List Value) (k : Int) (w : World) (hk0 : 0 ≤ k) (hk1 : k + n ≤ 9223372036854775807)
    (hown : w.ownsRow base E 1 (.slice A n c) n xs) :
    Calls Try.prog 30 #[.slice A n c, .int .i64 k] w
      fun e w' => e = .returned (.int .i64 (k + n)) ∧ w'.ownsRow base E 1 (.slice A n c) n (marksI k n) ∧ w.grownBy w' (Value.ownBlock (.slice A n c)) := by
  have hlen := owns_len hown
  by_cases h0 : 0 < n
  · obtain ⟨g, rfl⟩ : ∃ g, A = some ⟨g, 0, none⟩ := by
      rcases hown.2 with ⟨hv, hn⟩ | ⟨g, cap, cur, hv, _⟩
      · omega
      · injection hv with hA; exact ⟨g, hA⟩
    have Hlen := Lib.hid hlen
    clear hlen
    go_enter Try.func30, Try.ntmps30
    go_wp2
    go_loopw [1, 5] (fun m i wr => ∃ j : Nat, j ≤ n ∧ i = .int .i64 j ∧ m = .int .i64 (k + j) ∧ wr.ownsRow base E 1 (.slice (some ⟨g, 0, none⟩) n c) n (fillV (markIAt k) j xs) ∧ w.grownBy wr (some g)) (fun _ i _ => n - (intOf i).toNat)
    case atStart => exact ⟨0, by omega, rfl, by simp, hown, grown_refl _ _⟩
    case round =>
      obtain ⟨j, hj, rfl, rfl, hro, hgr⟩ := hrel
      by_cases hlt : j < n
      · have hc1 := hro.cellAt j (by omega)
        have hf1 := hro.frozenAt j
        rw [fillV_get, List.getElem?_eq_getElem (by rw [Hlen.out]; exact hlt)] at hc1
        have hst := hro.stored j (markIAt k j)
        rw [fillV_set _ _ _ (by rw [Hlen.out]; exact hlt)] at hst
        have Hst := Lib.hid hst
        clear hst
        go_wp2
        go_roundw
        case rel => exact ⟨j + 1, by omega, by go_num, by go_num, Hst.out.1, grown_set hgr _ _ _⟩
        case measure => simp [intOf]; omega
      · have e : j = n := by omega
        subst e
        have hfa := fillV_all (markIAt k) j xs Hlen.out
        rw [hfa] at hro
        clear hfa
        go_wp2
        go_ret
        exact ⟨rfl, hro, hgr⟩
  · have e : n = 0 := by omega
    subst e
    have hx : xs = [] := List.length_eq_zero_iff.1 hlen
    subst hx
    go_enter Try.func30, Try.ntmps30
    go_wp2
    go_loopw [1, 5] (fun m i wr => m = .int .i64 k ∧ i = .int .i64 0 ∧ w = wr) (fun _ _ _ => 0)
    case atStart => exact ⟨rfl, rfl, rfl⟩
    case round =>
      obtain ⟨rfl, rfl, rfl⟩ := hrel
      go_wp2
      go_ret
      exact ⟨by simp, hown, grown_refl _ _⟩

theorem owns_day {w : World} {base g : Nat} {l : List Int} (h : DayAt w g l) (hl : l.length = 24) (hb : base ≤ g) : w.ownsRow base 64 1 (.slice (some ⟨g, 0, none⟩) 24 24) 24 (intsV l) := by
  refine ⟨by rw [intsV_length, hl], .inr ⟨g, 24, dayV l, rfl, hb, h, Nat.le_refl _, by unfold maxLen; omega, by rw [dayV_size, hl], ?_⟩⟩
  show (dayV l).toList.take 24 = intsV l
  rw [List.take_of_length_le (by rw [Array.length_toList, dayV_size]; omega)]
  rfl
end Go.Proofs.Ythidaoemonjemab
