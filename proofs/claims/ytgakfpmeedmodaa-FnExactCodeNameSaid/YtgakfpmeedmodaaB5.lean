/-
  CodeName of the program and of the model: twelve names.
-/
import Derived.Test.YtgakfpmeedmodaaB1
namespace Go.Proofs.Ytgakfpmeedmodaa
open Go.ChangeShapes Go.WideShapes Go.ChangeAt Go.RowKit

def codeNames : List ByteArray := [⟨#[111, 107]⟩, ⟨#[105, 110, 118, 97, 108, 105, 100]⟩, ⟨#[114, 97, 110, 103, 101]⟩, ⟨#[110, 111, 116, 45, 102, 111, 117, 110, 100]⟩, ⟨#[101, 120, 105, 115, 116, 115]⟩, ⟨#[102, 117, 108, 108]⟩, ⟨#[115, 116, 97, 116, 101]⟩, ⟨#[111, 114, 100, 101, 114]⟩, ⟨#[115, 121, 110, 116, 97, 120]⟩, ⟨#[102, 111, 114, 109, 97, 116]⟩, ⟨#[99, 104, 101, 99, 107, 115, 117, 109]⟩, ⟨#[116, 114, 117, 110, 99, 97, 116, 101, 100]⟩]
def codeB (n : Int) : ByteArray := if inB n 0 11 then codeNames.getD n.toNat ⟨#[]⟩ else ⟨#[]⟩
theorem twelve (n : Int) (h : inB n 0 11 = true) : n = 0 ∨ n = 1 ∨ n = 2 ∨ n = 3 ∨ n = 4 ∨ n = 5 ∨ n = 6 ∨ n = 7 ∨ n = 8 ∨ n = 9 ∨ n = 10 ∨ n = 11 := by
  have := inB_iff.1 h
  omega

set_option maxHeartbeats 4000000 in
theorem specCodeName_any (n : Int) (w : World) :
    Calls Try.prog 10 #[.int .i64 n] w fun e w' => e = .returned (.string (codeB n)) ∧ Below w.heap.size w w' := by
  by_cases h : inB n 0 11 = true
  · rcases twelve n h with rfl | rfl | rfl | rfl | rfl | rfl | rfl | rfl | rfl | rfl | rfl | rfl
    all_goals
      go_enter Try.func10, Try.ntmps10
      go_wp2_with (go_at_call 27; refine (in_any _ _ _ _).mono ?_; rintro e w' ⟨rfl, rfl⟩)
      go_ret
      exact ⟨rfl, (Below.refl _ _).alloc (Nat.le_refl _) _⟩
  · have h' : inB n 0 11 = false := by simpa using h
    have H : Hid (codeB n = ⟨#[]⟩) := Lib.hid (by unfold codeB; rw [h']; rfl)
    go_enter Try.func10, Try.ntmps10
    go_wp2_with (go_at_call 27; refine (in_any _ _ _ _).mono ?_; rintro e w' ⟨rfl, rfl⟩)
    go_ret
    exact ⟨by rw [H.out]; rfl, (Below.refl _ _).alloc (Nat.le_refl _) _⟩

set_option maxHeartbeats 4000000 in
theorem implCodeName_any (n : Int) (w : World) :
    Calls Try.prog 11 #[.int .i64 n] w fun e w' => e = .returned (.string (codeB n)) ∧ Below w.heap.size w w' := by
  by_cases h : inB n 0 11 = true
  · go_enter Try.func11, Try.ntmps11
    go_wp2_with fail
    refine (within64_at1 _ _ n _ _ (by omega) (by simp)).mono ?_
    rintro e w' ⟨rfl, rfl⟩
    rcases twelve n h with rfl | rfl | rfl | rfl | rfl | rfl | rfl | rfl | rfl | rfl | rfl | rfl
    all_goals
      go_wp2
      go_ret
      exact ⟨rfl, ((Below.refl _ _).alloc (Nat.le_refl _) _).alloc (by simp) _⟩
  · have h' : inB n 0 11 = false := by simpa using h
    have H : Hid (codeB n = ⟨#[]⟩) := Lib.hid (by unfold codeB; rw [h']; rfl)
    go_enter Try.func11, Try.ntmps11
    go_wp2_with (go_at_call 28; refine (within64_at1 _ _ n _ _ (by omega) ?_).mono ?_; (simp); rintro e w' ⟨rfl, rfl⟩)
    go_ret
    exact ⟨by rw [H.out]; rfl, ((Below.refl _ _).alloc (Nat.le_refl _) _).alloc (by simp) _⟩
end Go.Proofs.Ytgakfpmeedmodaa
