/-
  Keys that rise, each behind the one ahead of it. No program in sight.
-/
import Derived.Test.YtdaedgdglammhabGs
namespace Go.Proofs.Ytdaedgdglammhab
open Go.ChangeShapes Go.WideShapes Go.ChangeAt Go.RowKit


/-- the i-th key stands behind the one ahead of it -/
def riseKAt (ks : List ByteArray) (i : Nat) : Bool := match ks[i - 1]?, ks[i]? with
  | some p, some q => i == 0 || idLt p q
  | _, _ => true
def riseK (ks : List ByteArray) (k : Nat) : Bool := (List.range k).all (riseKAt ks)
theorem riseK_succ (ks : List ByteArray) (k : Nat) : riseK ks (k + 1) = (riseK ks k && riseKAt ks k) := by
  unfold riseK
  rw [List.range_succ, List.all_append]
  simp
theorem riseK_false (ks : List ByteArray) (k n : Nat) (h : k < n) (hf : riseKAt ks k = false) : riseK ks n = false := by
  unfold riseK
  rw [List.all_eq_false]
  exact ⟨k, List.mem_range.2 h, by simp [hf]⟩
theorem riseKAt_zero (ks : List ByteArray) : riseKAt ks 0 = true := by
  unfold riseKAt
  split <;> rfl
theorem riseKAt_at (ks : List ByteArray) (k : Nat) (p q : ByteArray) (hp : ks[k]? = some p) (hq : ks[k + 1]? = some q) : riseKAt ks (k + 1) = idLt p q := by
  unfold riseKAt
  rw [Nat.add_sub_cancel, hp, hq]
  simp
theorem riseK_one (ks : List ByteArray) : riseK ks 1 = true := by
  unfold riseK
  simp [riseKAt_zero]
end Go.Proofs.Ytdaedgdglammhab
