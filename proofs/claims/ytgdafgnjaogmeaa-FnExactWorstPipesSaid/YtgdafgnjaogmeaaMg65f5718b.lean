import Derived.Test.YtgdafgnjaogmeaaLd1
import Derived.Test.YtgdafgnjaogmeaaMg1f22ea59
import Derived.Deep.RegionHeld3
import Derived.IntWalk
import Derived.Test.YtgdafgnjaogmeaaW4
/-
  What makes a list of buildings valid: both sides.
-/
namespace Go.Proofs.Ytgdafgnjaogmeaa
open Go.ChangeShapes Go.WideShapes Go.ChangeAt Go.RowKit

set_option maxRecDepth 100000
set_option linter.unusedVariables false

def keysBl (ds : List Bl) : List ByteArray := ds.map Bl.id
/-- buildings that are valid -/
def okBs (ds : List Bl) : Bool := decide (ds.length ≤ 12) && (ds.all Bl.ok && riseK (keysBl ds) ds.length)
theorem okBs_parts {ds : List Bl} (h : okBs ds = true) : ds.length ≤ 12 ∧ ds.all Bl.ok = true ∧ riseK (keysBl ds) ds.length = true := by
  unfold okBs at h
  simp only [Bool.and_eq_true, decide_eq_true_eq] at h
  exact h
theorem key_at {xs : List Bd} {k : Nat} {x : Bd} (h : xs[k]? = some x) : (keysBl (xs.map Bd.d))[k]? = some x.d.id := by
  simp [keysBl, h]

def validBuildingsR0 (ds : List Bl) : Bool := okBs ds
end Go.Proofs.Ytgdafgnjaogmeaa

/-
  Loads of several buildings together, both sides.
-/
namespace Go.Proofs.Ytgdafgnjaogmeaa
open Go.ChangeShapes Go.WideShapes Go.ChangeAt Go.RowKit

set_option maxRecDepth 100000
set_option linter.unusedVariables false

def sumI (ds : List Bl) (t h : Int) : Int := (ds.map fun d => loadI d t h).sum
theorem sum_take {α : Type} (f : α → Int) (l : List α) (k : Nat) (x : α) (hx : l[k]? = some x) : ((l.take (k + 1)).map f).sum = ((l.take k).map f).sum + f x := by
  rw [List.take_add_one, hx]
  simp
theorem sum_bd {α : Type} (f : α → Int) (K : Int) (hK : 0 ≤ K) : ∀ (l : List α), (∀ x ∈ l, 0 ≤ f x ∧ f x ≤ K) → 0 ≤ (l.map f).sum ∧ (l.map f).sum ≤ l.length * K
  | [], _ => by simp
  | a :: r, h => by
    have h1 := h a (by simp)
    have h2 := sum_bd f K hK r fun x hx => h x (by simp [hx])
    simp only [List.map_cons, List.sum_cons, List.length_cons]
    have e : ((r.length + 1 : Nat) : Int) * K = r.length * K + K := by rw [Int.natCast_add, Int.add_mul]; simp
    rw [e]
    omega
theorem take_sum_bd {ds : List Bl} (hok : ds.all Bl.ok = true) (hl : ds.length ≤ 12) (t h : Int) (ht0 : -4000 ≤ t) (ht1 : t ≤ 4500) (k : Nat) : 0 ≤ sumI (ds.take k) t h ∧ sumI (ds.take k) t h ≤ 138000000 := by
  have := sum_bd (fun d => loadI d t h) 11500000 (by omega) (ds.take k) fun d hd => load_bd (List.all_eq_true.1 hok d (List.mem_of_mem_take hd)) t ht0 ht1 h
  have hlen : (ds.take k).length ≤ 12 := by rw [List.length_take]; omega
  unfold sumI
  have h2 : ((ds.take k).length : Int) * 11500000 ≤ 12 * 11500000 := by omega
  omega
theorem sumI_all (ds : List Bl) (t h : Int) : sumI (ds.take ds.length) t h = sumI ds t h := by rw [List.take_length]

end Go.Proofs.Ytgdafgnjaogmeaa
