/-
  What a network loses: both sides.
-/
import Derived.Test.YtdaedgdglammhaaHc
import Derived.Test.YtdaedgdglammhaaKa0
import Derived.Test.YtdaedgdglammhaaTw
namespace Go.Proofs.Ytdaedgdglammhaa
open Go.ChangeShapes Go.WideShapes Go.ChangeAt Go.RowKit Go.Shelf
set_option linter.unusedSimpArgs false
set_option maxRecDepth 100000
set_option maxHeartbeats 1600000
set_option linter.unusedVariables false


theorem sumTk {α : Type} (f : α → Int) (l : List α) (k : Nat) (x : α) (hx : l[k]? = some x) : ((l.take (k + 1)).map f).sum = ((l.take k).map f).sum + f x := by
  rw [List.take_add_one, hx]
  simp
theorem sumBd {α : Type} (f : α → Int) (K : Int) (hK : 0 ≤ K) : ∀ (l : List α), (∀ x ∈ l, -K ≤ f x ∧ f x ≤ K) → -(l.length * K) ≤ (l.map f).sum ∧ (l.map f).sum ≤ l.length * K
  | [], _ => by simp
  | a :: r, h => by
    have h1 := h a (by simp)
    have h2 := sumBd f K hK r fun x hx => h x (by simp [hx])
    simp only [List.map_cons, List.sum_cons, List.length_cons]
    have e : ((r.length + 1 : Nat) : Int) * K = r.length * K + K := by rw [Int.natCast_add, Int.add_mul]; simp
    rw [e]
    omega
theorem sumTk_bd {α : Type} (f : α → Int) (K : Int) (hK : 0 ≤ K) (l : List α) (h : ∀ x ∈ l, -K ≤ f x ∧ f x ≤ K) (N : Nat) (hl : l.length ≤ N) (k : Nat) : -(N * K) ≤ ((l.take k).map f).sum ∧ ((l.take k).map f).sum ≤ N * K := by
  have h1 := sumBd f K hK (l.take k) fun x hx => h x (List.mem_of_mem_take hx)
  have h2 : (l.take k).length ≤ N := by rw [List.length_take]; omega
  have h3 : ((l.take k).length : Int) * K ≤ N * K := Int.mul_le_mul_of_nonneg_right (by omega) hK
  omega
/-- what a pipe loses, and all pipes of some -/
def lossW (a c : Int) (p : Pp) : Int := lossI p.s p.L a c
def sumW (ps : List Pp) (a c : Int) : Int := (ps.map (lossW a c)).sum
theorem okPp_bd {p : Pp} (h : p.ok = true) : (1 ≤ p.L ∧ p.L ≤ 10000) ∧ (20 ≤ p.d ∧ p.d ≤ 1000) ∧ (0 ≤ p.s ∧ p.s ≤ 5000) := by
  obtain ⟨-, -, -, -, h1, h2, h3⟩ := okP_bd p.id p.f p.t p.L p.d p.s h
  exact ⟨h1, h2, h3⟩
theorem lossW_bd {p : Pp} (h : p.ok = true) (a c : Int) (a0 : -5000 ≤ a) (a1 : a ≤ 20000) (b0 : -5000 ≤ c) (b1 : c ≤ 20000) : -1250000000001 ≤ lossW a c p ∧ lossW a c p ≤ 1250000000001 := by
  obtain ⟨⟨l0, l1⟩, -, ⟨s0, s1⟩⟩ := okPp_bd h
  have k := loss_num p.s p.L a c s0 s1 (by omega) l1 a0 a1 b0 b1
  have := nearI_bd (p.s * p.L * (a - c)) 100000 1250000000000 (by omega) (by omega) (by omega)
  unfold lossW lossI
  omega
theorem sumW_tk {ps : List Pp} {k : Nat} {p : Pp} (a c : Int) (h : ps[k]? = some p) : sumW (ps.take (k + 1)) a c = sumW (ps.take k) a c + lossW a c p := sumTk _ _ _ _ h
theorem sumW_bd {ps : List Pp} (hok : ∀ p ∈ ps, p.ok = true) (hm : ps.length ≤ 20) (a c : Int) (a0 : -5000 ≤ a) (a1 : a ≤ 20000) (b0 : -5000 ≤ c) (b1 : c ≤ 20000) (k : Nat) : -25000000000020 ≤ sumW (ps.take k) a c ∧ sumW (ps.take k) a c ≤ 25000000000020 := by
  have := sumTk_bd (lossW a c) 1250000000001 (by omega) ps (fun p hp => lossW_bd (hok p hp) a c a0 a1 b0 b1) 20 hm k
  unfold sumW
  omega
theorem sumW_all (ps : List Pp) (a c : Int) : sumW (ps.take ps.length) a c = sumW ps a c := by rw [List.take_length]
theorem netB_ok {z : List Int} {ps : List Pp} (h : netB z ps = true) : (∀ p ∈ ps, p.ok = true) ∧ ps.length ≤ 20 := by
  obtain ⟨-, -, h3, h4, -⟩ := netB_parts h
  exact ⟨fun p hp => (fitB_parts (List.all_eq_true.1 h4 p hp)).1, h3⟩
end Go.Proofs.Ytdaedgdglammhaa
